/-
  The texts MR1, KSh, KCo, FK1, KSf, FK2, FK3, RK1, RK2, RK3, RE3 in one.
-/
import Derived.Test.YtcolaggkeekgoabMPProjectRelation8
import Derived.Deep.SlicePairs
import Derived.Deep.RegionHeld3
import Derived.WalkMore

/- MR1:
  Lists of relations in memory, and the laws' small functions on them. -/
namespace Go.Proofs.Ytcolaggkeekgoab
open Go.RowKit
set_option linter.unusedVariables false
set_option linter.unusedSimpArgs false

theorem infoR : (Try.prog.info? 36).map (fun i => (i.zero, i.size, i.bytes)) = some (some (.agg #[.int .i64 0, .int .i64 0]), 2, 16) := by kernel_rfl

/-- s is a list of the call's own (from block base on) that holds the functions xs. -/
def OwnsR (W : World) (base : Nat) (s : Value) (xs : List (Int × Int)) : Prop := W.ownsRow base 36 2 s xs.length (fcells xs)

theorem OwnsR.below {W W' : World} {base : Nat} {s : Value} {xs : List (Int × Int)} (h : OwnsR W base s xs) (hb : Below W.heap.size W W') : OwnsR W' base s xs := by
  obtain ⟨h1, h2 | ⟨g, cap, cur, e1, e2, e3, r⟩⟩ := h
  · exact ⟨h1, .inl h2⟩
  · exact ⟨h1, .inr ⟨g, cap, cur, e1, e2, (hb.block g (Array.getElem?_eq_some_iff.1 e3).1).trans e3, r⟩⟩

theorem OwnsR.nil (W : World) (base : Nat) : OwnsR W base (.slice none 0 0) [] := World.ownsRow_nil _ _ _ _

theorem OwnsR.mono {W : World} {b1 b2 : Nat} {s : Value} {xs : List (Int × Int)} (h : OwnsR W b1 s xs) (hb : b2 ≤ b1) : OwnsR W b2 s xs := by
  obtain ⟨h1, h2 | ⟨g, cap, cur, e1, e2, e3, r⟩⟩ := h
  · exact ⟨h1, .inl h2⟩
  · exact ⟨h1, .inr ⟨g, cap, cur, e1, Nat.le_trans hb e2, e3, r⟩⟩

theorem OwnsR.lt {W : World} {b : Nat} {s : Value} {xs : List (Int × Int)} (h : OwnsR W b s xs) : ∀ k, s.ownBlock = some k → k < W.heap.size := fun k hk => (World.ownsRow.lt h k hk).2

theorem OwnsR.ge {W : World} {b : Nat} {s : Value} {xs : List (Int × Int)} (h : OwnsR W b s xs) : ∀ k, s.ownBlock = some k → b ≤ k := fun k hk => (World.ownsRow.lt h k hk).1

theorem OwnsR.keep {W W' : World} {b : Nat} {s : Value} {xs : List (Int × Int)} {row : Option Nat} (h : OwnsR W b s xs) (hg : W.grownBy W' row) (hne : ∀ k, s.ownBlock = some k → some k ≠ row) : OwnsR W' b s xs := by
  refine World.ownsRow.kept h hg ?_
  cases hs : s.ownBlock with
  | none => exact .inl rfl
  | some k => exact .inr (hne k hs)

theorem OwnsR.shape {W : World} {base : Nat} {s : Value} {xs : List (Int × Int)} (h : OwnsR W base s xs) :
    (xs = [] ∧ ∃ a cap, s = .slice a 0 cap) ∨ (0 < xs.length ∧ ∃ g cap, s = .slice (some ⟨g, 0, none⟩) xs.length cap ∧ base ≤ g ∧ g < W.heap.size ∧ Hid (∀ j, j < xs.length → W.cell? ⟨g, j * 2, none⟩ = some (.int .i64 (fget xs j).1) ∧ W.cell? ⟨g, j * 2 + 1, none⟩ = some (.int .i64 (fget xs j).2)) ∧ Hid (∀ j, W.frozen? ⟨g, j, none⟩ = false)) := by
  cases xs with
  | nil =>
    refine .inl ⟨rfl, ?_⟩
    obtain ⟨_, ⟨rfl, _⟩ | ⟨g, cap, cur, rfl, _⟩⟩ := h
    · exact ⟨_, _, rfl⟩
    · exact ⟨_, _, rfl⟩
  | cons x xs =>
    refine .inr ⟨by simp, ?_⟩
    obtain ⟨g, cap, rfl⟩ := ownsRow_succ (k := xs.length) h
    have hl := World.ownsRow.lt h g rfl
    refine ⟨g, cap, rfl, hl.1, hl.2, fun j hj => ?_, fun j => World.ownsRow.frozenAt h j⟩
    obtain ⟨h0, h1⟩ := fcells_get (x :: xs) j hj
    have hj' : j < xs.length + 1 := by simpa using hj
    rw [World.ownsRow.cellAt h (j * 2) (by omega), World.ownsRow.cellAt h (j * 2 + 1) (by omega)]
    exact ⟨h0, h1⟩

set_option maxRecDepth 100000 in
set_option maxHeartbeats 1000000 in
theorem szRelationS_any (a : Option Addr) (len cap : Nat) (hl : len ≤ 9223372036854775807) (left : Int) (h0 : 0 ≤ left) (h1 : left ≤ 1048576) (w : World) :
    Calls Try.prog 10 #[.slice a len cap, .int .i64 left] w fun e w' => e = .returned (.int .i64 (if (len : Int) ≤ left then left - len else -1)) ∧ w = w' := by
  by_cases h : (len : Int) ≤ left
  · rw [if_pos h]
    go_enter Try.func10, Try.ntmps10
    go_wp2
    go_ret
    exact ⟨rfl, rfl⟩
  · rw [if_neg h]
    go_enter Try.func10, Try.ntmps10
    go_wp2
    go_ret
    exact ⟨rfl, rfl⟩

theorem szRelationS_ok (a : Option Addr) (len cap : Nat) (h : len ≤ 1048576) (w : World) :
    Calls Try.prog 10 #[.slice a len cap, .int .i64 1048576] w fun e w' => e = .returned (.int .i64 (1048576 - (len : Int))) ∧ w = w' := by
  have := szRelationS_any a len cap (by omega) 1048576 (by omega) (by omega) w
  rwa [if_pos (by omega)] at this

theorem szRelationS_over (a : Option Addr) (len cap : Nat) (h : 1048576 < len) (hl : len ≤ 9223372036854775807) (w : World) :
    Calls Try.prog 10 #[.slice a len cap, .int .i64 1048576] w fun e w' => e = .returned (.int .i64 (-1)) ∧ w = w' := by
  have := szRelationS_any a len cap hl 1048576 (by omega) (by omega) w
  rwa [if_neg (by omega)] at this

set_option maxRecDepth 100000 in
set_option maxHeartbeats 2000000 in
theorem markRelationS_any {base : Nat} {s : Value} {xs : List (Int × Int)} (hl : xs.length ≤ 1048576) (k : Int) (hk0 : 0 ≤ k) (hk1 : k ≤ 100000000) (w : World) (h : OwnsR w base s xs) :
    Calls Try.prog 16 #[s, .int .i64 k] w fun e w' => e = .returned (.int .i64 (k + 2 * xs.length)) ∧ OwnsR w' base s (fmarks k xs.length) ∧ w.grownBy w' s.ownBlock := by
  rcases h.shape with ⟨rfl, a, cap, rfl⟩ | ⟨hn, g, cap, rfl, hbg, hg, hc, hf⟩
  · go_enter Try.func16, Try.ntmps16
    go_wp2
    refine wp_loop_rounds 1 ?_
    rw [rounds_succ]
    go_wp2
    go_ret
    exact ⟨by simp, h, World.grownBy.refl _ _⟩
  · have hn' : (fcells xs).length = xs.length * 2 := fcells_length xs
    unfold OwnsR at h
    unfold OwnsR
    rw [fmarks_length]
    generalize xs.length = n at hl hn hn' hc h ⊢
    generalize fcells xs = vs at hn' h
    clear hc hf
    go_enter Try.func16, Try.ntmps16
    go_wp2
    go_loopw [1, 5] (fun q i' wr => ∃ i : Nat, i ≤ n ∧ i' = .int .i64 i ∧ q = .int .i64 (k + 2 * i) ∧ wr.ownsRow base 36 2 (.slice (some ⟨g, 0, none⟩) n cap) n (fcells (fmarks k i) ++ vs.drop (i * 2)) ∧ w.grownBy wr (some g)) (fun _ i' _ => n - (intOf i').toNat)
    case atStart => exact ⟨0, Nat.zero_le _, rfl, by simp, by simpa [fmarks, fcells] using h, World.grownBy.refl _ _⟩
    case round =>
      clear h
      obtain ⟨i, hi, rfl, rfl, ho, hgr⟩ := hrel
      by_cases hlt : i < n
      · have hlen : (fcells (fmarks k i) ++ vs.drop (i * 2)).length = n * 2 := by rw [List.length_append, fcells_length, fmarks_length, List.length_drop]; omega
        obtain ⟨u, hu⟩ : ∃ u, wr.cell? ⟨g, i * 2, none⟩ = some u := by
          rw [ho.cellAt (i * 2) (by omega)]
          exact ⟨_, List.getElem?_eq_getElem (by omega)⟩
        obtain ⟨u2, hu2⟩ : ∃ u, wr.cell? ⟨g, i * 2 + 1, none⟩ = some u := by
          rw [ho.cellAt (i * 2 + 1) (by omega)]
          exact ⟨_, List.getElem?_eq_getElem (by omega)⟩
        have hfz := ho.frozenAt (i * 2)
        have hfz2 := ho.frozenAt (i * 2 + 1)
        obtain ⟨o1, g1⟩ := ho.stored (i * 2) (.int .i64 (k + 2 * i))
        obtain ⟨o2, g2⟩ := o1.stored (i * 2 + 1) (.int .i64 (k + 2 * i + 1))
        rw [fset (fmarks k i) vs i (k + 2 * i, k + 2 * i + 1) (fmarks_length k i) (by omega), ← fmarks_succ] at o2
        have HST := Lib.hid o2
        have hgr' := Lib.hid (gtrans (gtrans hgr g1) g2)
        clear o1 o2 g1 g2 ho hgr hn' hlen
        go_wp2
        go_roundw
        case rel => exact ⟨i + 1, by omega, by go_num, by go_num, HST.out, hgr'.out⟩
        case measure => simp [intOf]; omega
      · obtain rfl : i = n := by omega
        have ho' := Lib.hid ho
        have hgr' := Lib.hid hgr
        have hd := Lib.hid (List.drop_of_length_le (l := vs) (i := i * 2) (by omega))
        clear ho hgr hn'
        go_wp2
        go_ret
        exact ⟨rfl, by have := ho'.out; rw [hd.out, List.append_nil] at this; exact this, hgr'.out⟩

set_option maxRecDepth 100000 in
set_option maxHeartbeats 2000000 in
theorem eqRelationS_same {b1 b2 : Nat} {s1 s2 : Value} {xs : List (Int × Int)} (hl : xs.length ≤ 100000000) (w : World) (h1 : OwnsR w b1 s1 xs) (h2 : OwnsR w b2 s2 xs) :
    Calls Try.prog 15 #[s1, s2] w fun e w' => e = .returned (.bool true) ∧ Below w.heap.size w w' := by
  rcases h1.shape with ⟨rfl, a, cap, rfl⟩ | ⟨hn, g, cap, rfl, _, hg, hc, _⟩
  · rcases h2.shape with ⟨_, a', cap', rfl⟩ | ⟨hn, _⟩
    · go_enter Try.func15, Try.ntmps15
      go_wp2
      refine wp_loop_rounds 1 ?_
      rw [rounds_succ]
      go_wp2
      go_ret
      exact ⟨rfl, Below.refl _ _⟩
    · simp at hn
  · rcases h2.shape with ⟨h0, _⟩ | ⟨_, g', cap', rfl, _, hg', hc', _⟩
    · rw [h0] at hn; simp at hn
    · clear h1 h2
      generalize xs.length = n at hl hn hc hc' ⊢
      go_enter Try.func15, Try.ntmps15
      go_wp2
      go_loopw [5] (fun i wr => ∃ k : Nat, k ≤ n ∧ i = .int .i64 k ∧ Below w.heap.size w wr) (fun i _ => n - (intOf i).toNat)
      case atStart => exact ⟨0, Nat.zero_le _, rfl, Below.refl _ _⟩
      case round =>
        obtain ⟨k, hk, rfl, hB⟩ := hrel
        by_cases hlt : k < n
        · obtain ⟨c0, c1⟩ := hc.out k hlt
          obtain ⟨c2, c3⟩ := hc'.out k hlt
          have d0 := (hB.cell (p := ⟨g, k * 2, none⟩) hg).trans c0
          have d1 := (hB.cell (p := ⟨g, k * 2 + 1, none⟩) hg).trans c1
          have d2 := (hB.cell (p := ⟨g', k * 2, none⟩) hg').trans c2
          have d3 := (hB.cell (p := ⟨g', k * 2 + 1, none⟩) hg').trans c3
          clear c0 c1 c2 c3
          have i0 : (0 : Int) ≤ (k : Int) := by omega
          have i1 : ((k : Int) < (n : Int)) := by omega
          go_wp2
          go_region_held3 (fun w' => ((w'.cell? ⟨g, k * 2, none⟩ = some (.int .i64 (fget xs k).1) ∧ w'.cell? ⟨g, k * 2 + 1, none⟩ = some (.int .i64 (fget xs k).2)) ∧ (w'.cell? ⟨g', k * 2, none⟩ = some (.int .i64 (fget xs k).1) ∧ w'.cell? ⟨g', k * 2 + 1, none⟩ = some (.int .i64 (fget xs k).2))) ∧ Below w.heap.size w w') (first | exact ⟨⟨⟨d0, d1⟩, d2, d3⟩, hB.drew⟩ | exact hold4 hb1 (by assumption))
            (first
              | (go_at_call 22; refine (eqRelation_same _ _ _).mono ?_; rintro e w' ⟨rfl, hb1⟩))
          go_wp2
          go_roundw
          case rel => exact ⟨k + 1, by omega, by go_num, (‹(_ ∧ _) ∧ Below _ _ _›).2⟩
          case measure => simp [intOf]; omega
        · obtain rfl : k = n := by omega
          go_wp2
          go_ret
          exact ⟨rfl, hB⟩

/-- A post with 'there is a list of functions'. -/
def RListPost (base : Nat) (xs : List (Int × Int)) (w : World) (e : Ending) (w' : World) : Prop := ∃ s, e = .returned s ∧ OwnsR w' base s xs ∧ Below w.heap.size w w'

def RListCodePost (base : Nat) (xs : List (Int × Int)) (c : Int) (w : World) (e : Ending) (w' : World) : Prop := ∃ s, e = .returned (.tuple #[s, .int .i64 c]) ∧ OwnsR w' base s xs ∧ Below w.heap.size w w'

set_option maxRecDepth 100000 in
set_option maxHeartbeats 2000000 in
theorem toRelationS_any {a : Option Addr} {len cap : Nat} {zs : List (Int × Int)} {w0 : World} (h : IsRowF w0 a len zs) (hl : len ≤ 1048576) (w : World) (hw : Below w0.heap.size w0 w) :
    Calls Try.prog 12 #[.slice a len cap] w (RListPost w.heap.size zs w) := by
  obtain ⟨i0, hi, hz0, hz1, hz2⟩ := info_parts infoR
  obtain ⟨hzl, _, h0 | ⟨b, off, rfl, hb, hc⟩⟩ := h
  · subst h0
    obtain rfl : zs = [] := List.length_eq_zero_iff.1 hzl
    go_enter Try.func12, Try.ntmps12
    go_wp2_with (at_make; refine wpList_make_full _ rfl _ _ 27 rfl w.heap.size 36 i0 (.agg #[.int .i64 0, .int .i64 0]) 2 Try.underlying27 hi hz0 hz1 .i64 .i64 _ _ 0 rfl rfl rfl rfl (by rw [hz2]; decide) (by decide) (Nat.le_refl _) ?_; intro w1 hown1 hgrow1)
    have hB : Below w.heap.size w w1 := (Below.refl _ _).grown hgrow1 (Nat.le_refl _) (fun j e => by cases e)
    generalize (madeCells (Value.agg #[.int .i64 0, .int .i64 0]).cells (0 * 2)).toList = vs at hown1
    obtain rfl : vs = [] := List.length_eq_zero_iff.1 (by simpa using hown1.1)
    have ho := Lib.hid hown1
    clear hown1 hgrow1
    refine wp_loop_rounds 1 ?_
    rw [rounds_succ]
    go_wp2
    go_ret
    refine ⟨.slice (some ⟨w.heap.size, 0, none⟩) 0 0, rfl, ?_, hB⟩
    exact ho.out
  · go_enter Try.func12, Try.ntmps12
    go_wp2_with (at_make; refine wpList_make_full _ rfl _ _ 27 rfl w.heap.size 36 i0 (.agg #[.int .i64 0, .int .i64 0]) 2 Try.underlying27 hi hz0 hz1 .i64 .i64 _ _ len rfl rfl rfl rfl (by rw [hz2]; omega) (by unfold maxLen; omega) (Nat.le_refl _) ?_; intro w1 hown1 hgrow1)
    have hB : Below w.heap.size w w1 := (Below.refl _ _).grown hgrow1 (Nat.le_refl _) (fun j e => by cases e)
    have hvl := hown1.1
    generalize (madeCells (Value.agg #[.int .i64 0, .int .i64 0]).cells (len * 2)).toList = vs at hown1 hvl
    clear hgrow1
    go_loopw [4] (fun i' wr => ∃ i : Nat, i ≤ len ∧ i' = .int .i64 i ∧ wr.ownsRow w.heap.size 36 2 (.slice (some ⟨w.heap.size, 0, none⟩) len len) len (fcells (zs.take i) ++ vs.drop (i * 2)) ∧ Below w.heap.size w wr) (fun i' _ => len - (intOf i').toNat)
    case atStart => exact ⟨0, Nat.zero_le _, rfl, by simpa [fcells] using hown1, hB⟩
    case round =>
      clear hown1 hB
      obtain ⟨i, hi', rfl, ho, hN⟩ := hrel
      by_cases hlt : i < len
      · have hs := hw.size
        obtain ⟨c0, c1⟩ := hc.out i hlt
        have s0 := ((hN.cell (p := ⟨b, off + i * 2, none⟩) (by show b < w.heap.size; omega)).trans (hw.cell (p := ⟨b, off + i * 2, none⟩) hb)).trans c0
        have s1 := ((hN.cell (p := ⟨b, off + i * 2 + 1, none⟩) (by show b < w.heap.size; omega)).trans (hw.cell (p := ⟨b, off + i * 2 + 1, none⟩) hb)).trans c1
        clear c0 c1
        have hHO := Lib.hid ho
        clear ho
        go_wp2_with fail
        refine (toRelation_any (fget zs i).1 (fget zs i).2 _).mono ?_
        rintro e w2 ⟨rfl, hb2⟩
        have hN2 := bthen hN hb2
        have ho : w2.ownsRow w.heap.size 36 2 (.slice (some ⟨w.heap.size, 0, none⟩) len len) len (fcells (zs.take i) ++ vs.drop (i * 2)) := by
          obtain ⟨h1, h2 | ⟨g, cap, cur, e1, e2, e3, r⟩⟩ := hHO.out
          · exact ⟨h1, .inl h2⟩
          · exact ⟨h1, .inr ⟨g, cap, cur, e1, e2, (hb2.block g (Array.getElem?_eq_some_iff.1 e3).1).trans e3, r⟩⟩
        have hlen : (fcells (zs.take i) ++ vs.drop (i * 2)).length = len * 2 := by rw [List.length_append, fcells_length, List.length_take, List.length_drop]; omega
        obtain ⟨u, hu⟩ : ∃ u, w2.cell? ⟨w.heap.size, i * 2, none⟩ = some u := by
          rw [ho.cellAt (i * 2) (by omega)]
          exact ⟨_, List.getElem?_eq_getElem (by omega)⟩
        obtain ⟨u2, hu2⟩ : ∃ u, w2.cell? ⟨w.heap.size, i * 2 + 1, none⟩ = some u := by
          rw [ho.cellAt (i * 2 + 1) (by omega)]
          exact ⟨_, List.getElem?_eq_getElem (by omega)⟩
        have hfz := ho.frozenAt (i * 2)
        have hfz2 := ho.frozenAt (i * 2 + 1)
        obtain ⟨o1, g1⟩ := ho.stored (i * 2) (.int .i64 (fget zs i).1)
        obtain ⟨o2, g2⟩ := o1.stored (i * 2 + 1) (.int .i64 (fget zs i).2)
        rw [fset (zs.take i) vs i (fget zs i) (by rw [List.length_take]; omega) (by omega), ← ftake_snoc zs i (by omega)] at o2
        have HST := Lib.hid o2
        clear o1 o2 g1 g2 ho hvl hlen hHO s0 s1
        go_wp2
        go_roundw
        case rel => exact ⟨i + 1, by omega, by go_num, HST.out, (hN2.setCell (p := ⟨w.heap.size, i * 2, none⟩) (Nat.le_refl _) _).setCell (p := ⟨w.heap.size, i * 2 + 1, none⟩) (Nat.le_refl _) _⟩
        case measure => simp [intOf]; omega
      · obtain rfl : i = len := by omega
        have ho' := Lib.hid ho
        have hd := Lib.hid (List.drop_of_length_le (l := vs) (i := i * 2) (by omega))
        have ht := Lib.hid (List.take_of_length_le (l := zs) (i := i) (by omega))
        have hll := Lib.hid hzl
        clear ho hvl hzl
        go_wp2
        go_ret
        refine ⟨_, rfl, ?_, hN⟩
        unfold OwnsR
        rw [hll.out]
        have := ho'.out
        rw [hd.out, List.append_nil, ht.out] at this
        exact this

theorem OwnsR.snoc {W : World} {base : Nat} {s : Value} {xs : List (Int × Int)} {n x : Int} (h : W.ownsRow base 36 2 s (xs.length + 1) (fcells xs ++ [.int .i64 n, .int .i64 x])) : OwnsR W base s (xs ++ [(n, x)]) := by
  unfold OwnsR
  rw [fcells_snoc, List.length_append]
  exact h

theorem below_markedR {B : Nat} {W0 W W' : World} {b : Nat} {s : Value} {xs : List (Int × Int)} (hN : Below B W0 W) (h : OwnsR W b s xs) (hg : W.grownBy W' s.ownBlock) (hB : B ≤ b) (hs : B ≤ W.heap.size) : Below B W0 W' :=
  hN.grown hg hs (fun j e => Nat.le_trans hB (h.ge j e))
end Go.Proofs.Ytcolaggkeekgoab

/- KSh:
  IsSheffer in both packages. -/
namespace Go.Proofs.Ytcolaggkeekgoab
open Go.RowKit

theorem sum_none (v : Nat → Nat) (k : Nat) : sumN v k = 0 ↔ ∀ r, r < k → v r = 0 := by
  induction k with
  | zero => simp [sumN]
  | succ k ih =>
    have hp : 0 < 2 ^ k := Nat.two_pow_pos k
    simp only [sumN]
    constructor
    · intro h r hr
      have h1 : sumN v k = 0 := by omega
      have h2 : v k * 2 ^ k = 0 := by omega
      by_cases e : r = k
      · subst e
        rcases Nat.mul_eq_zero.1 h2 with h3 | h3
        · exact h3
        · omega
      · exact ih.1 h1 r (by omega)
    · intro h
      rw [ih.2 (fun r hr => h r (by omega)), h k (by omega)]
      omega

theorem partTo_one (p : Int × Int) (k : Nat) : partTo [p] 1 k 1 = clsP p k := by
  rw [partTo_succ]
  have : (bitN 1 0 == 0) = false := by decide
  rw [this, Bool.false_or]
  rfl

theorem owns_one (W : World) (n x : Int) (g : Nat) (hg : g = W.heap.size) : OwnsF (W.alloc (.cells #[.int .i64 n, .int .i64 x] 61)) 0 (.slice (some ⟨g, 0, none⟩) 1 1) [(n, x)] := by
  subst hg
  exact World.ownsRow_lit W _ 1 (Nat.zero_le _) (by unfold maxLen; omega) rfl

theorem part_none {n : Int} {x R : Nat} (ok : FOk n x R) : ((partN [(n, (x : Int))] 1 : Int) == 0) = noneTo n.toNat x R 5 := by
  rw [Bool.eq_iff_iff]
  have h1 : ((partN [(n, (x : Int))] 1 : Int) == 0) = true ↔ partN [(n, (x : Int))] 1 = 0 := by simp
  rw [h1, partN, sum_none, noneTo, allLt_iff]
  have h2 : ∀ r, partV [(n, (x : Int))] 1 r = (clsN n.toNat x R r).toNat := fun r => by
    show (partTo [(n, (x : Int))] 1 r 1).toNat = _
    rw [partTo_one, clsP, ok.he]
    rfl
  constructor
  · intro h r hr
    have := h r hr
    rw [h2] at this
    cases hc : clsN n.toNat x R r
    · rfl
    · rw [hc] at this; cases this
  · intro h r hr
    rw [h2]
    have := h r hr
    cases hc : clsN n.toNat x R r
    · rfl
    · rw [hc] at this; cases this

theorem l02Classes_one {base : Nat} {s : Value} {p : Int × Int} (hx : isF p.1 p.2 = true) (w : World) (h : OwnsF w base s [p]) :
    Calls Try.prog 151 #[s, .int .i64 1] w fun e w' => e = .returned (.int .i64 (partN [p] 1 : Int)) ∧ Below w.heap.size w w' :=
  l02Classes_any (xs := [p]) (by simp) (fun j hj => by obtain rfl : j = 0 := by simpa using hj
                                                       exact hx) 1 (by decide) (by simp) w h

end Go.Proofs.Ytcolaggkeekgoab

/- KCo:
  CountInClass and CountSheffer in both packages. -/
namespace Go.Proofs.Ytcolaggkeekgoab
open Go.RowKit

/-- The functions of an arity: their rows, their number. -/
theorem arity_nums {n : Int} (h0 : 0 ≤ n) (h4 : n ≤ 4) : ∃ R T : Nat, 0 < R ∧ R ≤ 16 ∧ Hid (rowsN n = (R : Int)) ∧ Hid (T = 2 ^ R) ∧ 0 < T ∧ T ≤ 65536 ∧ Hid (allN n = (T : Int) - 1) ∧ ∀ x, x < T → FOk n x R := by
  obtain ⟨R, hR, r0, r16, he⟩ := rowsN_eq h0 h4
  have h16 : (2 : Nat) ^ R ≤ 2 ^ 16 := Nat.pow_le_pow_right (by decide) r16
  have hp : 0 < 2 ^ R := Nat.two_pow_pos R
  refine ⟨R, 2 ^ R, r0, r16, Lib.hid hR, Lib.hid rfl, hp, h16, Lib.hid ?_, fun x hx => ⟨h0, h4, r0, r16, Lib.hid hR, by omega, he, hx⟩⟩
  rw [allN_rows he]
  omega

theorem l01All_top {n : Int} {T : Nat} (h0 : 0 ≤ n) (h4 : n ≤ 4) (hA : Hid (allN n = (T : Int) - 1)) (w : World) :
    Calls Try.prog 80 #[.int .i64 n] w fun e w' => e = .returned (.int .i64 ((T : Int) - 1)) ∧ w = w' := hA.out ▸ l01All_any n h0 h4 w

end Go.Proofs.Ytcolaggkeekgoab

/- FK1:
  FunctionsKeeping: the mathematics, the model. -/
namespace Go.Proofs.Ytcolaggkeekgoab
open Go.RowKit
set_option linter.unusedVariables false
set_option linter.unusedSimpArgs false

/-- The first i relations of a list are relations. -/
def allRTo (xs : List (Int × Int)) (i : Nat) : Bool := allLt i fun j => isR (fget xs j).1 (fget xs j).2
theorem allRTo_succ (xs : List (Int × Int)) (i : Nat) : allRTo xs (i + 1) = (allRTo xs i && isR (fget xs i).1 (fget xs i).2) := allLt_succ _ _
theorem allRTo_false {xs : List (Int × Int)} {i L : Nat} (hi : i < L) (h : isR (fget xs i).1 (fget xs i).2 = false) : allRTo xs L = false := by
  cases hc : allRTo xs L
  · rfl
  · have := allLt_iff.1 hc i hi
    rw [h] at this; cases this
theorem allRTo_at {xs : List (Int × Int)} {L i : Nat} (h : allRTo xs L = true) (hi : i < L) : isR (fget xs i).1 (fget xs i).2 = true := allLt_iff.1 h i hi
/-- The function (k, x) keeps the relation. -/
def kpR (x k : Nat) (r : Int × Int) : Bool := keepsN x r.2.toNat k r.1.toNat
def kpTo (xs : List (Int × Int)) (x k i : Nat) : Bool := allLt i fun j => kpR x k (fget xs j)
theorem kpTo_succ (xs : List (Int × Int)) (x k i : Nat) : kpTo xs x k (i + 1) = (kpTo xs x k i && kpR x k (fget xs i)) := allLt_succ _ _
theorem kpTo_mono {xs : List (Int × Int)} {x k i L : Nat} (hi : i ≤ L) (h : kpTo xs x k i = false) : kpTo xs x k L = false := by
  cases hc : kpTo xs x k L
  · rfl
  · have h2 : kpTo xs x k i = true := allLt_iff.2 fun j hj => allLt_iff.1 hc j (by omega)
    rw [h] at h2; cases h2
theorem kpTo_no {xs : List (Int × Int)} {x k i L : Nat} (hi : i < L) (h : kpR x k (fget xs i) = false) : kpTo xs x k L = false := by
  cases hc : kpTo xs x k L
  · rfl
  · have := allLt_iff.1 hc i hi
    rw [h] at this; cases this
/-- The functions that keep them, among those below T. -/
def fkL (n : Int) (xs : List (Int × Int)) (k L T : Nat) : List (Int × Int) := ((List.range T).filter fun x => kpTo xs x k L).map fun (x : Nat) => (n, (x : Int))
theorem fkL_yes {n : Int} {xs : List (Int × Int)} {k L T : Nat} (h : kpTo xs T k L = true) : fkL n xs k L (T + 1) = fkL n xs k L T ++ [(n, (T : Int))] := by simp [fkL, List.range_succ, h]
theorem fkL_no {n : Int} {xs : List (Int × Int)} {k L T : Nat} (h : kpTo xs T k L = false) : fkL n xs k L (T + 1) = fkL n xs k L T := by simp [fkL, List.range_succ, h]
theorem fkL_len (n : Int) (xs : List (Int × Int)) (k L T : Nat) : (fkL n xs k L T).length ≤ T := by
  unfold fkL
  rw [List.length_map]
  exact Nat.le_trans (List.length_filter_le _ _) (by simp)
theorem keeps_r {n : Int} {k x R : Nat} (hn : n = (k : Int)) (k4 : k ≤ 4) (ok : FOk n x R) {r : Int × Int} (h : isR r.1 r.2 = true) {b : Bool} (hb : kpR x k r = b) (w : World) :
    Calls Try.prog 84 #[.agg #[.int .i64 n, .int .i64 x], .agg #[.int .i64 r.1, .int .i64 r.2]] w fun e w' => e = .returned (.bool b) ∧ Below w.heap.size w w' := by
  subst hn
  obtain ⟨P, y, Q, e1, e2, _, okr⟩ := rok_nat h
  rw [← hb, kpR, e1, e2, Int.toNat_natCast, Int.toNat_natCast]
  exact keeps_any ok k4 okr w
theorem l06Keeps_r {n : Int} {k x R : Nat} (hn : n = (k : Int)) (k4 : k ≤ 4) (ok : FOk n x R) {r : Int × Int} (h : isR r.1 r.2 = true) {b : Bool} (hb : kpR x k r = b) (w : World) :
    Calls Try.prog 81 #[.agg #[.int .i64 n, .int .i64 x], .agg #[.int .i64 r.1, .int .i64 r.2]] w fun e w' => e = .returned (.bool b) ∧ Below w.heap.size w w' := by
  subst hn
  obtain ⟨P, y, Q, e1, e2, _, okr⟩ := rok_nat h
  rw [← hb, kpR, e1, e2, Int.toNat_natCast, Int.toNat_natCast]
  exact l06Keeps_any ok k4 okr w

theorem OwnsR.cells {W : World} {base : Nat} {s : Value} {xs : List (Int × Int)} (h : OwnsR W base s xs) :
    ∃ a cap, s = .slice a xs.length cap ∧ (xs.length = 0 ∨ ∃ g, a = some ⟨g, 0, none⟩ ∧ g < W.heap.size ∧ Hid (∀ j, j < xs.length → W.cell? ⟨g, j * 2, none⟩ = some (.int .i64 (fget xs j).1) ∧ W.cell? ⟨g, j * 2 + 1, none⟩ = some (.int .i64 (fget xs j).2))) := by
  rcases h.shape with ⟨rfl, a, cap, rfl⟩ | ⟨hn, g, cap, rfl, hbg, hg, hc, hf⟩
  · exact ⟨a, cap, rfl, .inl rfl⟩
  · exact ⟨_, cap, rfl, .inr ⟨g, rfl, hg, hc⟩⟩

/-- What the model's first loop says. -/
def codeRL (xs : List (Int × Int)) : Bool := allRTo xs xs.length

set_option maxRecDepth 100000 in
set_option maxHeartbeats 4000000 in
theorem specFunctionsKeeping_no {base : Nat} {s : Value} {xs : List (Int × Int)} (hl : xs.length ≤ 1048576) {n : Int} {c : Int} (hA : codeRL xs = false ∧ c = 1 ∨ codeRL xs = true ∧ (6 < xs.length ∨ inB n 0 3 = false) ∧ c = 2) (w : World) (h : OwnsR w base s xs) :
    Calls Try.prog 11 #[s, .int .i64 n] w (FListCodePost w.heap.size [] c w) := by
  obtain ⟨a, cap, rfl, hrow⟩ := h.cells
  have HROW := Lib.hid hrow
  clear h hrow
  unfold codeRL at hA
  have HBB := Lib.hid hA
  clear hA
  generalize xs.length = L at hl HROW HBB ⊢
  go_enter Try.func11, Try.ntmps11
  go_wp2
  go_loopw [6] (fun i' wr => ∃ i : Nat, i ≤ L ∧ i' = .int .i64 i ∧ Hid (allRTo xs i = true) ∧ Below w.heap.size w wr) (fun i' _ => L - (intOf i').toNat)
  case atStart => exact ⟨0, Nat.zero_le _, rfl, Lib.hid rfl, Below.refl _ _⟩
  case round =>
    obtain ⟨i, hi, rfl, hm, hB⟩ := hrel
    by_cases hlt : i < L
    · obtain ⟨g, rfl, hg, hc⟩ : ∃ g, a = some ⟨g, 0, none⟩ ∧ g < w.heap.size ∧ Hid (∀ j, j < L → w.cell? ⟨g, j * 2, none⟩ = some (.int .i64 (fget xs j).1) ∧ w.cell? ⟨g, j * 2 + 1, none⟩ = some (.int .i64 (fget xs j).2)) := by
        rcases HROW.out with h0 | h1
        · omega
        · exact h1
      obtain ⟨c0, c1⟩ := hc.out i hlt
      have d0 := (hB.cell (p := ⟨g, i * 2, none⟩) hg).trans c0
      have d1 := (hB.cell (p := ⟨g, i * 2 + 1, none⟩) hg).trans c1
      clear c0 c1
      cases hf : isR (fget xs i).1 (fget xs i).2
      · obtain rfl : c = 1 := by
          rcases HBB.out with h | h
          · exact h.2
          · have := allRTo_at h.1 hlt
            rw [hf] at this; cases this
        go_wp2_with (go_at_call 78; refine (l06Is_is hf _).mono ?_; rintro e w2 ⟨rfl, hb2⟩)
        go_ret2
        exact ⟨_, rfl, OwnsF.nil _ _, bthen hB hb2⟩
      · have HM := Lib.hid (show allRTo xs (i + 1) = true by rw [allRTo_succ, hm.out, hf]; rfl)
        go_wp2_with (go_at_call 78; refine (l06Is_is hf _).mono ?_; rintro e w2 ⟨rfl, hb2⟩)
        go_roundw
        case rel => exact ⟨i + 1, by omega, by go_num, HM, bthen hB hb2⟩
        case measure => simp [intOf]; omega
    · obtain rfl : i = L := by omega
      obtain ⟨hor, rfl⟩ : (6 < i ∨ inB n 0 3 = false) ∧ c = 2 := by
        rcases HBB.out with h | h
        · have := h.1
          rw [hm.out] at this; cases this
        · exact h.2
      by_cases h6 : 6 < i
      · have hd : decide ((6 : Int) < (i : Int)) = true := by simp; omega
        clear hor
        go_wp2
        go_ret2
        exact ⟨_, rfl, OwnsF.nil _ _, hB⟩
      · have hd : decide ((6 : Int) < (i : Int)) = false := by simp; omega
        have hin : inB n 0 3 = false := hor.resolve_left h6
        clear hor
        go_wp2_with (go_at_call 79; refine (l01In_is hin _).mono ?_; rintro e w' ⟨rfl, rfl⟩)
        go_ret2
        exact ⟨_, rfl, OwnsF.nil _ _, hB⟩

set_option maxRecDepth 100000 in
set_option maxHeartbeats 8000000 in
theorem specFunctionsKeeping_yes {base : Nat} {s : Value} {xs : List (Int × Int)} (hl : xs.length ≤ 6) (hall : codeRL xs = true) {n : Int} {k R T : Nat} (hn : n = (k : Int)) (hin : inB n 0 3 = true) (h0 : 0 ≤ n) (h4 : n ≤ 4) (hA : Hid (allN n = (T : Int) - 1)) (hT0 : 0 < T) (hT16 : T ≤ 65536) (ok : ∀ x, x < T → FOk n x R) (w : World) (h : OwnsR w base s xs) :
    Calls Try.prog 11 #[s, .int .i64 n] w (FListCodePost w.heap.size (fkL n xs k xs.length T) 0 w) := by
  obtain ⟨i0, hi, hz0, hz1, hz2⟩ := info_parts infoF
  obtain ⟨a, cap, rfl, hrow⟩ := h.cells
  have HROW := Lib.hid hrow
  unfold codeRL at hall
  have HALL := Lib.hid hall
  have HOK := Lib.hid ok
  have HN := Lib.hid hn
  have hk4 : k ≤ 4 := by omega
  clear h hrow hall ok hn
  generalize hL : xs.length = L at hl HROW HALL ⊢
  have hd6 : decide ((6 : Int) < (L : Int)) = false := by simp; omega
  have GB : ∀ w, Calls Try.prog 80 #[.int .i64 n] w fun e w' => e = .returned (.int .i64 ((T : Int) - 1)) ∧ w = w' := fun w => by
    have := l01All_any n (by omega) (by omega) w
    rwa [hA.out] at this
  go_enter Try.func11, Try.ntmps11
  go_wp2
  go_loopw [6] (fun i' wr => ∃ i : Nat, i ≤ L ∧ i' = .int .i64 i ∧ Below w.heap.size w wr) (fun i' _ => L - (intOf i').toNat)
  case atStart => exact ⟨0, Nat.zero_le _, rfl, Below.refl _ _⟩
  case round =>
    obtain ⟨i, hi', rfl, hB⟩ := hrel
    by_cases hlt : i < L
    · obtain ⟨g, rfl, hg, hc⟩ : ∃ g, a = some ⟨g, 0, none⟩ ∧ g < w.heap.size ∧ Hid (∀ j, j < L → w.cell? ⟨g, j * 2, none⟩ = some (.int .i64 (fget xs j).1) ∧ w.cell? ⟨g, j * 2 + 1, none⟩ = some (.int .i64 (fget xs j).2)) := by
        rcases HROW.out with h0 | h1
        · omega
        · exact h1
      obtain ⟨c0, c1⟩ := hc.out i hlt
      have d0 := (hB.cell (p := ⟨g, i * 2, none⟩) hg).trans c0
      have d1 := (hB.cell (p := ⟨g, i * 2 + 1, none⟩) hg).trans c1
      clear c0 c1
      have hf := allRTo_at HALL.out hlt
      go_wp2_with (go_at_call 78; refine (l06Is_is hf _).mono ?_; rintro e w2 ⟨rfl, hb2⟩)
      go_roundw
      case rel => exact ⟨i + 1, by omega, by go_num, bthen hB hb2⟩
      case measure => simp [intOf]; omega
    · obtain ⟨w2, hw2⟩ : ∃ w2, wr = w2 := ⟨_, rfl⟩
      rw [hw2] at hB ⊢
      have hb2 := hB
      clear hw2 hB
      go_wp2_with (go_at_call 79; refine (l01In_is hin _).mono ?_; rintro e w' ⟨rfl, rfl⟩)
      clear hi' hlt
      go_loopw [7, 8] (fun v' y' wr => ∃ y : Nat, y ≤ T ∧ y' = .int .i64 y ∧ OwnsF wr w2.heap.size v' (fkL n xs k L y) ∧ Below w2.heap.size w2 wr)
        (fun _ y' _ => T - (intOf y').toNat)
      case atStart => exact ⟨0, Nat.zero_le _, rfl, World.ownsRow_lit w2 #[] 0 (Nat.le_refl _) (by decide) rfl, bnew _ _⟩
      case round =>
        obtain ⟨y, hy, rfl, hown, hN⟩ := hrel
        by_cases hlt : y < T
        · have okf := HOK.out y hlt
          have hle := fkL_len n xs k L y
          obtain ⟨W1, hW1⟩ : ∃ W1, wr.alloc (.cells #[.int .i64 n, .int .i64 (y : Int)] 61) = W1 := ⟨_, rfl⟩
          have q0 : W1.cell? ⟨wr.heap.size, 0, none⟩ = some (.int .i64 n) := by rw [← hW1]; simp [go_sem]
          have q1 : W1.cell? ⟨wr.heap.size, 1, none⟩ = some (.int .i64 (y : Int)) := by rw [← hW1]; simp [go_sem]
          have hB1 : Below wr.heap.size wr W1 := by rw [← hW1]; exact bnew _ _
          have HOWN := Lib.hid (hown.below hB1)
          have HN1 := Lib.hid (bthen hN hB1)
          clear hown hN
          obtain ⟨B, hB⟩ : ∃ B, B = wr.heap.size := ⟨_, rfl⟩
          rw [← hB] at q0 q1
          have hdec : decide ((y : Int) ≤ (T : Int) - 1) = true := by simp; omega
          go_wp2_with (go_at_call 80; refine (GB _).mono ?_; rintro e w' ⟨rfl, rfl⟩)
          try rw [← hB]
          clear hB
          clear hW1
          go_loopw [10, 11] (fun k' i' wr => ∃ i : Nat, i ≤ L ∧ i' = .int .i64 i ∧ k' = .bool (kpTo xs y k i) ∧ Below W1.heap.size W1 wr) (fun _ i' _ => L - (intOf i').toNat)
          case atStart => exact ⟨0, Nat.zero_le _, rfl, rfl, Below.refl _ _⟩
          case round =>
            obtain ⟨i, hi', rfl, rfl, hM⟩ := hrel
            have d0 := kc hM q0
            have d1 := kc hM q1
            have hbig := bthen hb2 (bthen HN1.out hM)
            cases hk : kpTo xs y k i
            · have HNO := Lib.hid (fkL_no (n := n) (kpTo_mono hi' hk))
              have hN5 := bthen HN1.out hM
              clear hk
              by_cases hil : i < L
              · go_wp2
                go_roundw
                case rel => exact ⟨y + 1, by omega, by go_num, by rw [HNO.out]; exact HOWN.out.below hM, hN5⟩
                case measure => simp [intOf]; omega
              · go_wp2
                go_roundw
                case rel => exact ⟨y + 1, by omega, by go_num, by rw [HNO.out]; exact HOWN.out.below hM, hN5⟩
                case measure => simp [intOf]; omega
            · by_cases hil : i < L
              · obtain ⟨g, rfl, hg, hc⟩ : ∃ g, a = some ⟨g, 0, none⟩ ∧ g < w.heap.size ∧ Hid (∀ j, j < L → w.cell? ⟨g, j * 2, none⟩ = some (.int .i64 (fget xs j).1) ∧ w.cell? ⟨g, j * 2 + 1, none⟩ = some (.int .i64 (fget xs j).2)) := by
                  rcases HROW.out with h0 | h1
                  · omega
                  · exact h1
                obtain ⟨c0, c1⟩ := hc.out i hil
                have e0 := (hbig.cell (p := ⟨g, i * 2, none⟩) hg).trans c0
                have e1 := (hbig.cell (p := ⟨g, i * 2 + 1, none⟩) hg).trans c1
                clear c0 c1
                have hf := allRTo_at HALL.out hil
                obtain ⟨bk, hbk⟩ : ∃ bk, kpR y k (fget xs i) = bk := ⟨_, rfl⟩
                have KP := Lib.hid (l06Keeps_r HN.out hk4 okf hf hbk)
                have HK2 : Hid (kpTo xs y k (i + 1) = bk) := Lib.hid (by rw [kpTo_succ, hk, hbk]; rfl)
                clear hf hbk hk
                obtain ⟨p1, hp1⟩ : ∃ p1, (fget xs i).1 = p1 := ⟨_, rfl⟩
                obtain ⟨p2, hp2⟩ : ∃ p2, (fget xs i).2 = p2 := ⟨_, rfl⟩
                rw [hp1] at e0 KP
                rw [hp2] at e1 KP
                clear hp1 hp2
                have MK : Hid (∀ W : World, Below wr.heap.size wr W → (((W.cell? ⟨B, 0, none⟩ = some (.int .i64 n) ∧ W.cell? ⟨B, 1, none⟩ = some (.int .i64 (y : Int))) ∧ (W.cell? ⟨g, i * 2, none⟩ = some (.int .i64 p1) ∧ W.cell? ⟨g, i * 2 + 1, none⟩ = some (.int .i64 p2))) ∧ Below wr.heap.size wr W)) := Lib.hid fun W h => ⟨⟨⟨kc h d0, kc h d1⟩, ⟨kc h e0, kc h e1⟩⟩, h⟩
                go_wp2
                go_region_held3 (fun W => ((W.cell? ⟨B, 0, none⟩ = some (.int .i64 n) ∧ W.cell? ⟨B, 1, none⟩ = some (.int .i64 (y : Int))) ∧ (W.cell? ⟨g, i * 2, none⟩ = some (.int .i64 p1) ∧ W.cell? ⟨g, i * 2 + 1, none⟩ = some (.int .i64 p2))) ∧ Below wr.heap.size wr W)
                  (first | with_reducible exact MK.out _ (Below.refl _ _).drew | (with_reducible exact MK.out _ ((Below.refl _ _).drew.trans (hb5.mono (by simp)))) | with_reducible assumption)
                  (first
                    | (go_at_call 81; refine (KP.out _).mono ?_; rintro e w5 ⟨rfl, hb5⟩; have T8 := MK.out w5 ((Below.refl wr.heap.size wr).drew.trans hb5)))
                all_goals
                  have hM5 := bthen hM T8.2
                  clear T8
                  go_wp2
                  go_roundw
                  case rel => exact ⟨i + 1, by omega, by go_num, by rw [HK2.out], hM5⟩
                  case measure => simp [intOf]; omega
              · have HIL : Hid (i = L) := Lib.hid (by omega)
                have HS : Hid (fkL n xs k L (y + 1) = fkL n xs k L y ++ [(n, (y : Int))]) := Lib.hid (fkL_yes (by rw [← HIL.out]; exact hk))
                have hown5 : World.ownsRow _ _ _ _ _ _ _ := HOWN.out.below hM
                have hN5 := bthen HN1.out hM
                have hs5 := hN5.size
                clear hk
                go_wp2_with (at_builtin; refine wpList_append_own _ rfl _ _ 24 rfl w2.heap.size 61 i0 (.agg #[.int .i64 0, .int .i64 0]) 2 16 Try.underlying24 hi hz0 hz1 hz2 rfl (by decide) _ _ _ rfl (hown5.alloc _) ⟨wr.heap.size, 0, none⟩ 1 1 [.int .i64 n, .int .i64 (y : Int)] rfl rfl (cell_two_new _ _ _ _) (one_cell_two _ _) (by unfold maxLen; omega) (by omega) (by simp; omega) ?_)
                intro v' w1 hown' hgrow _
                have hN' := (balloc hN5 (.cells #[.int .i64 n, .int .i64 (y : Int)] 61)).grown hgrow (by simp; omega) (fun j e => (hown5.lt j e).1)
                clear hgrow hown5 hN5 d0 d1 q0 q1
                go_wp2
                go_roundw
                case rel => exact ⟨y + 1, by omega, by go_num, by rw [HS.out]; exact OwnsF.snoc hown', hN'⟩
                case measure => simp [intOf]; omega
        · have HYT : Hid (y = T) := Lib.hid (by omega)
          have ho := Lib.hid hown
          clear hown
          go_wp2_with (go_at_call 80; refine (GB _).mono ?_; rintro e w' ⟨rfl, rfl⟩)
          go_ret2
          rw [← HYT.out]
          exact ⟨_, rfl, ho.out.mono hb2.size, bthen hb2 hN⟩
end Go.Proofs.Ytcolaggkeekgoab

/- KSf:
  ShefferFunctions in both packages. -/
namespace Go.Proofs.Ytcolaggkeekgoab
open Go.RowKit Go.Shelf
attribute [local go_sem] Oper.semAt_some

/-- The Sheffer functions among those below k. -/
def shfL (n : Int) (R k : Nat) : List (Int × Int) := ((List.range k).filter fun x => noneTo n.toNat x R 5).map fun (x : Nat) => (n, (x : Int))
theorem shfL_yes (n : Int) (R k : Nat) (h : noneTo n.toNat k R 5 = true) : shfL n R (k + 1) = shfL n R k ++ [(n, (k : Int))] := by simp [shfL, List.range_succ, h]
theorem shfL_no (n : Int) (R k : Nat) (h : noneTo n.toNat k R 5 = false) : shfL n R (k + 1) = shfL n R k := by simp [shfL, List.range_succ, h]
theorem shfL_len (n : Int) (R k : Nat) : (shfL n R k).length ≤ k := by
  unfold shfL
  rw [List.length_map]
  exact Nat.le_trans (List.length_filter_le _ _) (by simp)

/-- .. those handed out so far. -/
def shfF {T : Nat} (n : Int) (R : Nat) (pre : List (Row T)) : List (Int × Int) := (pre.filter fun x => noneTo n.toNat x.1 R 5).map fun x => (n, (x.1 : Int))
theorem shfF_yes {T : Nat} (n : Int) (R : Nat) (pre : List (Row T)) (x : Row T) (h : noneTo n.toNat x.1 R 5 = true) : shfF n R (pre ++ [x]) = shfF n R pre ++ [(n, (x.1 : Int))] := by simp [shfF, h]
theorem shfF_no {T : Nat} (n : Int) (R : Nat) (pre : List (Row T)) (x : Row T) (h : noneTo n.toNat x.1 R 5 = false) : shfF n R (pre ++ [x]) = shfF n R pre := by simp [shfF, h]
theorem shfF_len {T : Nat} (n : Int) (R : Nat) (pre : List (Row T)) : (shfF n R pre).length ≤ pre.length := by
  unfold shfF
  rw [List.length_map]
  exact List.length_filter_le _ _
theorem shfF_upto {T : Nat} (hT : 0 < T) (n : Int) (R k : Nat) (hk : k ≤ T) : shfF n R (upto hT k) = shfL n R k := by
  induction k with
  | zero => rfl
  | succ k ih =>
    have hv := rowAt_val hT (k := k) (by omega)
    cases h : noneTo n.toNat k R 5
    · rw [upto_succ, shfF_no _ _ _ _ (by rw [hv]; exact h), ih (by omega), shfL_no _ _ _ h]
    · rw [upto_succ, shfF_yes _ _ _ _ (by rw [hv]; exact h), ih (by omega), shfL_yes _ _ _ h, hv]

theorem owns_below' {W W' : World} {base : Nat} {e : TypeId} {size : Nat} {v : Value} {n : Nat} {xs : List Value} (h : W.ownsRow base e size v n xs) (hb : Below W.heap.size W W') : W'.ownsRow base e size v n xs := by
  obtain ⟨h1, h2 | ⟨g, cap, cur, e1, e2, e3, r⟩⟩ := h
  · exact ⟨h1, .inl h2⟩
  · exact ⟨h1, .inr ⟨g, cap, cur, e1, e2, (hb.block g (Array.getElem?_eq_some_iff.1 e3).1).trans e3, r⟩⟩

end Go.Proofs.Ytcolaggkeekgoab

/- FK2:
  FunctionsKeeping of the program. -/
namespace Go.Proofs.Ytcolaggkeekgoab
open Go.RowKit Go.Shelf
attribute [local go_sem] Oper.semAt_some
set_option linter.unusedVariables false
set_option linter.unusedSimpArgs false

set_option maxRecDepth 100000 in
set_option maxHeartbeats 2000000 in
theorem areRelations_any {base : Nat} {s : Value} {xs : List (Int × Int)} (hl : xs.length ≤ 1048576) (w : World) (h : OwnsR w base s xs) {b : Bool} (hb : allRTo xs xs.length = b) :
    Calls Try.prog 82 #[s] w fun e w' => e = .returned (.bool b) ∧ Below w.heap.size w w' := by
  obtain ⟨a, cap, rfl, hrow⟩ := h.cells
  have HROW := Lib.hid hrow
  have HBB := Lib.hid hb
  clear h hrow hb
  generalize hL : xs.length = L at hl HROW HBB ⊢
  clear hL
  go_enter Try.func82, Try.ntmps82
  go_wp2
  go_loopw [7] (fun i' wr => ∃ i : Nat, i ≤ L ∧ i' = .int .i64 i ∧ Hid (allRTo xs i = true) ∧ Below w.heap.size w wr) (fun i' _ => L - (intOf i').toNat)
  case atStart => exact ⟨0, Nat.zero_le _, rfl, Lib.hid rfl, Below.refl _ _⟩
  case round =>
    obtain ⟨i, hi, rfl, hm, hB⟩ := hrel
    by_cases hlt : i < L
    · obtain ⟨g, rfl, hg, hc⟩ : ∃ g, a = some ⟨g, 0, none⟩ ∧ g < w.heap.size ∧ Hid (∀ j, j < L → w.cell? ⟨g, j * 2, none⟩ = some (.int .i64 (fget xs j).1) ∧ w.cell? ⟨g, j * 2 + 1, none⟩ = some (.int .i64 (fget xs j).2)) := by
        rcases HROW.out with h0 | h1
        · omega
        · exact h1
      obtain ⟨c0, c1⟩ := hc.out i hlt
      have d0 := (hB.cell (p := ⟨g, i * 2, none⟩) hg).trans c0
      have d1 := (hB.cell (p := ⟨g, i * 2 + 1, none⟩) hg).trans c1
      clear c0 c1
      cases hf : isR (fget xs i).1 (fget xs i).2
      · obtain rfl : b = false := HBB.out.symm.trans (allRTo_false hlt hf)
        go_wp2_with (go_at_call 63; refine (IsRelation_is hf _).mono ?_; rintro e w2 ⟨rfl, hb2⟩)
        go_ret
        exact ⟨rfl, bthen hB (bthen (bnew _ _) hb2)⟩
      · have HM := Lib.hid (show allRTo xs (i + 1) = true by rw [allRTo_succ, hm.out, hf]; rfl)
        go_wp2_with (go_at_call 63; refine (IsRelation_is hf _).mono ?_; rintro e w2 ⟨rfl, hb2⟩)
        go_roundw
        case rel => exact ⟨i + 1, by omega, by go_num, HM, bthen hB (bthen (bnew _ _) hb2)⟩
        case measure => simp [intOf]; omega
    · obtain rfl : i = L := by omega
      obtain rfl : b = true := HBB.out.symm.trans hm.out
      go_wp2
      go_ret
      exact ⟨rfl, hB⟩

/-- The functions that keep them, those handed out so far. -/
def fkF {T : Nat} (n : Int) (xs : List (Int × Int)) (k L : Nat) (pre : List (Row T)) : List (Int × Int) := (pre.filter fun x => kpTo xs x.1 k L).map fun x => (n, (x.1 : Int))
theorem fkF_yes {T : Nat} (n : Int) (xs : List (Int × Int)) (k L : Nat) (pre : List (Row T)) (x : Row T) (h : kpTo xs x.1 k L = true) : fkF n xs k L (pre ++ [x]) = fkF n xs k L pre ++ [(n, (x.1 : Int))] := by simp [fkF, h]
theorem fkF_no {T : Nat} (n : Int) (xs : List (Int × Int)) (k L : Nat) (pre : List (Row T)) (x : Row T) (h : kpTo xs x.1 k L = false) : fkF n xs k L (pre ++ [x]) = fkF n xs k L pre := by simp [fkF, h]
theorem fkF_len {T : Nat} (n : Int) (xs : List (Int × Int)) (k L : Nat) (pre : List (Row T)) : (fkF n xs k L pre).length ≤ pre.length := by
  unfold fkF
  rw [List.length_map]
  exact List.length_filter_le _ _
theorem fkF_upto {T : Nat} (hT : 0 < T) (n : Int) (xs : List (Int × Int)) (k L j : Nat) (hj : j ≤ T) : fkF n xs k L (upto hT j) = fkL n xs k L j := by
  induction j with
  | zero => rfl
  | succ j ih =>
    have hv := rowAt_val hT (k := j) (by omega)
    cases h : kpTo xs j k L
    · rw [upto_succ, fkF_no _ _ _ _ _ _ (by rw [hv]; exact h), ih (by omega), fkL_no h]
    · rw [upto_succ, fkF_yes _ _ _ _ _ _ (by rw [hv]; exact h), ih (by omega), fkL_yes h, hv]

set_option maxRecDepth 100000 in
set_option maxHeartbeats 8000000 in
theorem implFunctionsKeeping_yes {base : Nat} {s : Value} {xs : List (Int × Int)} (hl : xs.length ≤ 6) (hall : codeRL xs = true) {n : Int} {k R T : Nat} (hn : n = (k : Int)) (h0 : 0 ≤ n) (h3 : n ≤ 3) (r0 : 0 < R) (r16 : R ≤ 16) (hR : Hid (rowsN n = (R : Int))) (hT : Hid (T = 2 ^ R)) (hT0 : 0 < T) (hT16 : T ≤ 65536) (ok : ∀ x, x < T → FOk n x R) (w : World) (h : OwnsR w base s xs) :
    Calls Try.prog 13 #[s, .int .i64 n] w (FListCodePost w.heap.size (fkL n xs k xs.length T) 0 w) := by
  obtain ⟨i0, hi, hz0, hz1, hz2⟩ := info_parts infoF
  have h4 : n ≤ 4 := by omega
  have hk4 : k ≤ 4 := by omega
  have HOK := Lib.hid ok
  have HN := Lib.hid hn
  have AR := Lib.hid (fun W hb => areRelations_any (by omega) W (h.below (W' := W) hb) (b := true) hall)
  obtain ⟨a, cap, rfl, hrow⟩ := h.cells
  have HROW := Lib.hid hrow
  unfold codeRL at hall
  have HALL := Lib.hid hall
  clear h hrow hall ok hn
  generalize hL : xs.length = L at hl HROW HALL AR ⊢
  have hd1 : decide (n < 0) = false := by simp; omega
  have hd2 : decide (3 < n) = false := by simp; omega
  have hd6 : decide ((6 : Int) < (L : Int)) = false := by simp; omega
  refine (callsIn_wide (n := 3)).1 ?_
  refine callsIn_of_wp_marks Try.func13 rfl trivial ?_ rfl
  simp only [Try.ntmps13, List.size_toArray, List.length_cons, List.length_nil, Nat.reduceAdd, Nat.reduceSub, Array.replicate_succ, Array.replicate_zero, List.push_toArray, List.append_toArray, List.nil_append, List.cons_append]
  have c2 : (w.alloc (.cells #[.slice a L cap] 27)).cell? ⟨w.heap.size, 0, none⟩ = some (.slice a L cap) := by simp [go_sem]
  gi_wp2_with fail
  rw [wpIn_wide]
  apply wp_scope_straight
  rw [← wpIn_wide (n := 3)]
  gi_wp2_with (first
    | (refine ⟨trivial, ?_⟩; gi_at_call 82; refine (callsIn_wide.2 (AR.out _ (bnew _ _))).mono ?_; rintro e w2 ⟨rfl, hb2⟩; have q2 := kc hb2 c2; have hB2 := bthen (bnew w _) hb2; have l2 : w.heap.size < w2.heap.size := cell_lt q2)
    | (refine ⟨trivial, ?_⟩; gi_at_call 83; refine (callsIn_wide.2 (funcsOfArity_any _ _)).mono ?_; rintro e w' ⟨rfl, rfl⟩))
  refine wpIn_label ?_
  gi_wp2_with (refine ⟨trivial, ?_⟩; gi_at_call 83; refine (callsIn_wide.2 (funcsOfArity_any _ _)).mono ?_; rintro e w' ⟨rfl, rfl⟩)
  obtain ⟨W0, hW0⟩ : ∃ W0, (w2.alloc (.cells #[.slice none 0 0] 24)).alloc (.cells #[.int .i64 n] 2) = W0 := ⟨_, rfl⟩
  have hbx : Boxed W0 w2.heap.size 24 (.slice none 0 0) := by rw [← hW0]; exact (Boxed.new _ _ _).alloc _
  have cM : W0.cell? ⟨w2.heap.size + 1, 0, none⟩ = some (.int .i64 n) := by rw [← hW0]; simp [go_sem]
  have hbm : Boxed W0 (w2.heap.size + 1) 2 (.int .i64 n) := by rw [← hW0, show w2.heap.size + 1 = (w2.alloc (.cells #[.slice none 0 0] 24)).heap.size by simp]; exact Boxed.new _ _ _
  have hsz : W0.heap.size = w2.heap.size + 2 := by rw [← hW0]; simp [go_sem]
  have hB0 : Below w2.heap.size w2 W0 := by rw [← hW0]; exact balloc (bnew _ _) _
  rw [hW0]
  clear hW0 hd1 hd2 hd6 AR hb2 c2
  refine wpIn_rangeFunc_ownH (α := Row T) rfl (by omega) (gf := 142) (lb := #[.pointer (some ⟨w2.heap.size + 1, 0, none⟩)]) rfl trivial (enters_of Try.func142 (by kernel_rfl) rfl)
    (funcs_stops (3 - 1) (by omega) (w2.heap.size + 1) w2.heap.size n R T h0 h4 r0 r16 hR hT.out hT0 hT16 W0 cM) stays_t (stays_b (by omega)) (Below.refl _ _) (fun _ => rfl)
    (fun pre W => (∃ v, Boxed W w2.heap.size 24 v ∧ W.ownsRow w2.heap.size 61 2 v (fkF n xs k L pre).length (fcells (fkF n xs k L pre)) ∧ True) ∧ (Boxed W (w2.heap.size + 1) 2 (.int .i64 n) ∧ Below w2.heap.size w2 W))
    (fun _ _ _ => False)
    (OwnFrom.and (Own.from (holdsRow_own w2.heap.size w2.heap.size 24 61 2 (fun pre => (fkF n xs k L pre).length) (fun pre => fcells (fkF n xs k L pre)) (fun _ _ => True)) _) (OwnFrom.and ((boxed_own (w2.heap.size + 1) 2 (fun _ => .int .i64 n)).from _) (ownFrom_below (Nat.le_refl _) (by omega))))
    (fun _ _ _ _ _ hs _ _ => hs)
    ⟨⟨_, hbx, World.ownsRow_nil _ _ _ _, trivial⟩, hbm, hB0⟩
    (fun x a' W => ∃ BX, a' = { tmps := #[.slice a L cap, .int .i64 n, .pointer (some ⟨w.heap.size, 0, none⟩), undef, .slice none 0 0, .int .i64 0, .pointer (some ⟨w2.heap.size, 0, none⟩), .pointer (some ⟨BX, 0, none⟩), undef, undef, .slice a L cap, .bool true, .bool false, .slice a L cap, .int .i64 L, .bool false, .bool false, .int .i64 n, .bool false, .bool false, .bool false, .int .i64 n, .bool false, .bool false, .int .i64 n,
      .func (.func 142) #[] #[.pointer (some ⟨w2.heap.size + 1, 0, none⟩)], .agg #[.int .i64 n, .int .i64 (x.1 : Int)], undef, undef, undef, undef, undef, undef, undef, undef, undef, undef, undef, undef, undef, undef, undef, undef], defers := [] } ∧ FBox BX n x.1 W)
    (fun x a' W A B row ⟨BX, e, hb⟩ hg hr => ⟨BX, e, ⟨cell_kept hb.c0 hg (fun r er => (hr r er).2), cell_kept hb.c1 hg (fun r er => (hr r er).2)⟩⟩)
    ?assign ?body ?done ?stop
  case assign =>
    rintro l pre x W K ⟨⟨v, hv, hrow, _⟩, hbm', hB⟩ hK
    unfold encFunc
    gi_wp2
    refine hK _ _ ((KeepsOthers.alloc W _).from _) (stays_below (by have := hB.size; omega) (bnew _ _)) ⟨⟨v, hv.alloc _, hrow.alloc _, trivial⟩, hbm'.alloc _, balloc hB _⟩ ⟨W.heap.size, rfl, ⟨by simp [go_sem], by simp [go_sem]⟩⟩
  case body =>
    clear cM hbx hbm
    rintro l pre x _ W hl hrec ⟨⟨v, hv, hrow, _⟩, hbm, hB⟩ ⟨BX, rfl, hbx⟩ hlen
    have c0 := hbx.c0
    have c1 := hbx.c1
    clear hbx hrec
    have hx := x.2
    have hle := fkF_len n xs k L pre
    have okf := HOK.out x.1 hx
    have HM := Lib.hid hbm
    clear hbm
    have HV := Lib.hid hv
    have HR := Lib.hid hrow
    clear hv hrow
    have HYES := Lib.hid (fkF_yes n xs k L pre x)
    have HNOX := Lib.hid (fkF_no n xs k L pre x)
    have q0 := kc hB q2
    have hs2 := hB.size
    generalize x.1 = r at hx c1 okf HYES HNOX ⊢
    gi_wp2
    gi_loopw [29] (fun i' wr => ∃ i : Nat, i ≤ L ∧ i' = .int .i64 i ∧ Hid (kpTo xs r k i = true) ∧ Below W.heap.size W wr) (fun i' _ => L - (intOf i').toNat)
    case atStart => exact ⟨0, Nat.zero_le _, rfl, Lib.hid rfl, Below.refl _ _⟩
    case round =>
      obtain ⟨i, hi', rfl, hkp, hM⟩ := hrel
      have hbig := bthen hB2 (bthen hB hM)
      have d0 := kc hM c0
      have d1 := kc hM c1
      by_cases hil : i < L
      · obtain ⟨g, rfl, hg, hc⟩ : ∃ g, a = some ⟨g, 0, none⟩ ∧ g < w.heap.size ∧ Hid (∀ j, j < L → w.cell? ⟨g, j * 2, none⟩ = some (.int .i64 (fget xs j).1) ∧ w.cell? ⟨g, j * 2 + 1, none⟩ = some (.int .i64 (fget xs j).2)) := by
          rcases HROW.out with h0 | h1
          · omega
          · exact h1
        obtain ⟨e0', e1'⟩ := hc.out i hil
        have e0 := (hbig.cell (p := ⟨g, i * 2, none⟩) hg).trans e0'
        have e1 := (hbig.cell (p := ⟨g, i * 2 + 1, none⟩) hg).trans e1'
        have lBX : BX < wr.heap.size := cell_lt d0
        have hf := allRTo_at HALL.out hil
        clear e0' e1' hc
        cases hkr : kpR r k (fget xs i)
        · have KP := Lib.hid (keeps_r HN.out hk4 okf hf hkr)
          have HNO := Lib.hid (HNOX.out (kpTo_no hil hkr))
          generalize fget xs i = pr at e0 e1 KP
          clear hf hkr hkp
          gi_wp2_with (refine ⟨trivial, ?_⟩; gi_at_call 84; refine (callsIn_wide.2 (KP.out _)).mono ?_; rintro e w5 ⟨rfl, hb5⟩)
          have hb' : Below W.heap.size W w5 := bthen (bthen hM (bnew _ _)) hb5
          refine ⟨(kotb hb').from _, stays_below (by omega) hb', ⟨v, ?_, ?_, trivial⟩, (hb'.block _ HM.out.lt).trans HM.out, bthen hB hb'⟩
          · exact (hb'.block w2.heap.size HV.out.lt).trans HV.out
          · rw [HNO.out]; exact OwnsF.below HR.out hb'
        · have KP := Lib.hid (keeps_r HN.out hk4 okf hf hkr)
          have HK2 : Hid (kpTo xs r k (i + 1) = true) := Lib.hid (by rw [kpTo_succ, hkp.out, hkr]; rfl)
          generalize fget xs i = pr at e0 e1 KP
          clear hf hkr hkp
          gi_wp2_with (refine ⟨trivial, ?_⟩; gi_at_call 84; refine (callsIn_wide.2 (KP.out _)).mono ?_; rintro e w5 ⟨rfl, hb5⟩)
          go_roundw
          case rel => exact ⟨i + 1, by omega, by go_num, HK2, bthen (bthen hM (bnew _ _)) hb5⟩
          case measure => simp [intOf]; omega
      · have HIL : Hid (i = L) := Lib.hid (by omega)
        have HC : Hid (fkF n xs k L (pre ++ [x]) = fkF n xs k L pre ++ [(n, (r : Int))]) := Lib.hid (HYES.out (by rw [← HIL.out]; exact hkp.out))
        have hv5 : Boxed wr w2.heap.size 24 v := (hM.block w2.heap.size HV.out.lt).trans HV.out
        have HV5 := Lib.hid hv5
        have dv := hv5.cell
        have hrow5 : World.ownsRow _ _ _ _ _ _ _ := owns_below' HR.out hM
        have hm5 : Boxed wr (w2.heap.size + 1) 2 (.int .i64 n) := (hM.block _ HM.out.lt).trans HM.out
        have HM5 := Lib.hid hm5
        have hB5 := bthen hB hM
        have hs5 := hB5.size
        clear hv5 hm5 hkp
        generalize hlk : (fkF n xs k L pre).length = q at hle hrow5
        have HLK := Lib.hid hlk
        clear hlk
        gi_wp2_with (gi_at_builtin; refine wpListIn_append_own _ rfl _ _ 24 rfl w2.heap.size 61 i0 (.agg #[.int .i64 0, .int .i64 0]) 2 16 Try.underlying24 hi hz0 hz1 hz2 rfl (by decide) _ _ _ rfl (hrow5.alloc _) ⟨wr.heap.size, 0, none⟩ 1 1 [.int .i64 n, .int .i64 (r : Int)] rfl rfl (cell_two_new _ _ _ _) (one_cell_two _ _) (by unfold maxLen; omega) (by omega) (by simp; omega) ?_; intro v' w1 hown' hgrow _; have HAP := Lib.hid (Boxed.appended HV5.out (by decide) hrow5 hs5 (Nat.le_refl _) hown' hgrow); obtain ⟨g5, cap5, rfl⟩ := ownsRow_succ hown'; have HM1 := Lib.hid ((HM5.out.alloc _).kept hgrow (HM5.out.not_row (by decide) hrow5)); have e5 := HAP.out.1.cell; have z5 := HAP.out.1.frozen; clear hgrow)
        obtain ⟨a1, a2, a3, a4, a5⟩ := HAP.out
        have hm6 := HM1.out.other (B' := w2.heap.size) (by omega) (.slice (some ⟨g5, 0, none⟩) (q + 1) cap5)
        refine ⟨((kotb hM).trans a4).from _, ⟨(hM.mono (by omega)).trans a5, fun u hu => ?_⟩, ⟨_, a2, ?_, trivial⟩, hm6, hB5.trans a5⟩
        · rw [HM.out.cell] at hu
          cases hu
          exact hm6.cell
        · rw [HC.out, fcells_snoc, List.length_append, HLK.out]
          exact a3
  case done =>
    clear cM hbx hbm
    rintro D ys W hD rfl ⟨⟨v, hv, hrow, _⟩, _, hB⟩ hK
    rw [fkF_upto hT0 n xs k L T (Nat.le_refl _)] at hrow
    have dv := hv.cell
    have HR := Lib.hid hrow
    clear hrow hv
    gi_wp2
    rw [Exit.noGoto_ret]
    refine ⟨by simp, .inl ⟨_, _, rfl, run_takeDeferred hK, ?_⟩⟩
    refine ⟨.tuple #[v, .int .i64 0], by simp [results, Try.results13, go_sem], v, rfl, ?_, bthen hB2 (hB.trans (belowK_b (w := w2) (Nat.le_refl _) W D _ _ (by omega) hK rfl rfl))⟩
    exact OwnsF.mono (ownsRow_putObj HR.out _ hK rfl) (by omega)
  case stop =>
    rintro D c pre W _ _ h _
    exact h.elim
end Go.Proofs.Ytcolaggkeekgoab

/- FK3:
  FunctionsKeeping in both packages. -/
namespace Go.Proofs.Ytcolaggkeekgoab
open Go.RowKit
set_option linter.unusedVariables false
set_option linter.unusedSimpArgs false

set_option maxRecDepth 100000 in
set_option maxHeartbeats 2000000 in
theorem implFunctionsKeeping_a {base : Nat} {s : Value} {xs : List (Int × Int)} (hl : xs.length ≤ 1048576) {n : Int} (hall : codeRL xs = false) (w : World) (h : OwnsR w base s xs) :
    Calls Try.prog 13 #[s, .int .i64 n] w (FListCodePost w.heap.size [] 1 w) := by
  have AR := Lib.hid (fun W hb => areRelations_any hl W (h.below (W' := W) hb) (b := false) hall)
  obtain ⟨a, cap, rfl, _⟩ := h.cells
  clear h hall
  generalize xs.length = L at *
  have c2 : (w.alloc (.cells #[.slice a L cap] 27)).cell? ⟨w.heap.size, 0, none⟩ = some (.slice a L cap) := by simp [go_sem]
  go_enter Try.func13, Try.ntmps13
  go_wp2
  go_step3
  go_wp2_with (go_at_call 82; refine (AR.out _ (bnew _ _)).mono ?_; rintro e w2 ⟨rfl, hb2⟩; have q2 := kc hb2 c2)
  rw [Exit.noGoto_ret]
  go_ret2
  exact ⟨_, rfl, OwnsF.nil _ _, bthen (bnew _ _) hb2⟩

set_option maxRecDepth 100000 in
set_option maxHeartbeats 2000000 in
theorem implFunctionsKeeping_b {base : Nat} {s : Value} {xs : List (Int × Int)} (hl : xs.length ≤ 1048576) {n : Int} (hall : codeRL xs = true) (h6 : 6 < xs.length) (w : World) (h : OwnsR w base s xs) :
    Calls Try.prog 13 #[s, .int .i64 n] w (FListCodePost w.heap.size [] 2 w) := by
  have AR := Lib.hid (fun W hb => areRelations_any hl W (h.below (W' := W) hb) (b := true) hall)
  obtain ⟨a, cap, rfl, _⟩ := h.cells
  clear h hall
  have hd6 : decide ((6 : Int) < (xs.length : Int)) = true := by simp; omega
  generalize xs.length = L at *
  have c2 : (w.alloc (.cells #[.slice a L cap] 27)).cell? ⟨w.heap.size, 0, none⟩ = some (.slice a L cap) := by simp [go_sem]
  go_enter Try.func13, Try.ntmps13
  go_wp2
  go_step3
  go_wp2_with (go_at_call 82; refine (AR.out _ (bnew _ _)).mono ?_; rintro e w2 ⟨rfl, hb2⟩; have q2 := kc hb2 c2)
  rw [Exit.noGoto_ret]
  go_ret2
  exact ⟨_, rfl, OwnsF.nil _ _, bthen (bnew _ _) hb2⟩

set_option maxRecDepth 100000 in
set_option maxHeartbeats 2000000 in
theorem implFunctionsKeeping_c {base : Nat} {s : Value} {xs : List (Int × Int)} (hl : xs.length ≤ 1048576) {n : Int} (hall : codeRL xs = true) (h6 : xs.length ≤ 6) (h0 : n < 0) (w : World) (h : OwnsR w base s xs) :
    Calls Try.prog 13 #[s, .int .i64 n] w (FListCodePost w.heap.size [] 2 w) := by
  have AR := Lib.hid (fun W hb => areRelations_any hl W (h.below (W' := W) hb) (b := true) hall)
  obtain ⟨a, cap, rfl, _⟩ := h.cells
  clear h hall
  have hd6 : decide ((6 : Int) < (xs.length : Int)) = false := by simp; omega
  have hd1 : decide (n < 0) = true := by simpa using h0
  generalize xs.length = L at *
  have c2 : (w.alloc (.cells #[.slice a L cap] 27)).cell? ⟨w.heap.size, 0, none⟩ = some (.slice a L cap) := by simp [go_sem]
  go_enter Try.func13, Try.ntmps13
  go_wp2
  go_step3
  go_wp2_with (go_at_call 82; refine (AR.out _ (bnew _ _)).mono ?_; rintro e w2 ⟨rfl, hb2⟩; have q2 := kc hb2 c2)
  rw [Exit.noGoto_ret]
  go_ret2
  exact ⟨_, rfl, OwnsF.nil _ _, bthen (bnew _ _) hb2⟩

set_option maxRecDepth 100000 in
set_option maxHeartbeats 2000000 in
theorem implFunctionsKeeping_d {base : Nat} {s : Value} {xs : List (Int × Int)} (hl : xs.length ≤ 1048576) {n : Int} (hall : codeRL xs = true) (h6 : xs.length ≤ 6) (h0 : 0 ≤ n) (h3 : 3 < n) (w : World) (h : OwnsR w base s xs) :
    Calls Try.prog 13 #[s, .int .i64 n] w (FListCodePost w.heap.size [] 2 w) := by
  have AR := Lib.hid (fun W hb => areRelations_any hl W (h.below (W' := W) hb) (b := true) hall)
  obtain ⟨a, cap, rfl, _⟩ := h.cells
  clear h hall
  have hd6 : decide ((6 : Int) < (xs.length : Int)) = false := by simp; omega
  have hd1 : decide (n < 0) = false := by simp; omega
  have hd2 : decide (3 < n) = true := by simpa using h3
  generalize xs.length = L at *
  have c2 : (w.alloc (.cells #[.slice a L cap] 27)).cell? ⟨w.heap.size, 0, none⟩ = some (.slice a L cap) := by simp [go_sem]
  go_enter Try.func13, Try.ntmps13
  go_wp2
  go_step3
  go_wp2_with (go_at_call 82; refine (AR.out _ (bnew _ _)).mono ?_; rintro e w2 ⟨rfl, hb2⟩; have q2 := kc hb2 c2)
  rw [Exit.noGoto_ret]
  go_ret2
  exact ⟨_, rfl, OwnsF.nil _ _, bthen (bnew _ _) hb2⟩

theorem bothFunctionsKeeping {xs : List (Int × Int)} (hl : xs.length ≤ 1048576) (n : Int) : ∃ (ys : List (Int × Int)) (rc : Int), ys.length ≤ 100000 ∧
    (∀ base s w, OwnsR w base s xs → Calls Try.prog 11 #[s, .int .i64 n] w (FListCodePost w.heap.size ys rc w)) ∧
    (∀ base s w, OwnsR w base s xs → Calls Try.prog 13 #[s, .int .i64 n] w (FListCodePost w.heap.size ys rc w)) := by
  cases hall : codeRL xs
  · exact ⟨[], 1, by simp, fun base s w ho => specFunctionsKeeping_no hl (.inl ⟨hall, rfl⟩) w ho, fun base s w ho => implFunctionsKeeping_a hl hall w ho⟩
  · by_cases h6 : 6 < xs.length
    · exact ⟨[], 2, by simp, fun base s w ho => specFunctionsKeeping_no hl (.inr ⟨hall, .inl h6, rfl⟩) w ho, fun base s w ho => implFunctionsKeeping_b hl hall h6 w ho⟩
    · cases hin : inB n 0 3
      · have hn : n < 0 ∨ 3 < n := by
          have : ¬ (0 ≤ n ∧ n ≤ 3) := by simpa [inB] using hin
          omega
        by_cases h0 : n < 0
        · exact ⟨[], 2, by simp, fun base s w ho => specFunctionsKeeping_no hl (.inr ⟨hall, .inr hin, rfl⟩) w ho, fun base s w ho => implFunctionsKeeping_c hl hall (by omega) h0 w ho⟩
        · exact ⟨[], 2, by simp, fun base s w ho => specFunctionsKeeping_no hl (.inr ⟨hall, .inr hin, rfl⟩) w ho, fun base s w ho => implFunctionsKeeping_d hl hall (by omega) (by omega) (by omega) w ho⟩
      · have hn2 : 0 ≤ n ∧ n ≤ 3 := by simpa [inB] using hin
        obtain ⟨R, T, r0, r16, hR, hT, hT0, hT16, hA, ok⟩ := arity_nums (n := n) hn2.1 (by omega)
        have hnk : n = (n.toNat : Int) := by omega
        exact ⟨fkL n xs n.toNat xs.length T, 0, by have := fkL_len n xs n.toNat xs.length T; omega, fun base s w ho => specFunctionsKeeping_yes (by omega) hall hnk hin hn2.1 (by omega) hA hT0 hT16 ok w ho, fun base s w ho => implFunctionsKeeping_yes (by omega) hall hnk hn2.1 hn2.2 r0 r16 hR hT hT0 hT16 ok w ho⟩
end Go.Proofs.Ytcolaggkeekgoab

/- RK1:
  RelationsKept in both packages. -/
namespace Go.Proofs.Ytcolaggkeekgoab
open Go.RowKit
set_option linter.unusedVariables false
set_option linter.unusedSimpArgs false

/-- The function p keeps the relation. -/
def keepsP (p : Int × Int) (y P : Nat) : Bool := keepsN p.2.toNat y p.1.toNat P
theorem keeps_p {p : Int × Int} (h : isF p.1 p.2 = true) {P y Q : Nat} (okr : ROk (P : Int) y Q) {b : Bool} (hb : keepsP p y P = b) (w : World) :
    Calls Try.prog 84 #[.agg #[.int .i64 p.1, .int .i64 p.2], .agg #[.int .i64 P, .int .i64 y]] w fun e w' => e = .returned (.bool b) ∧ Below w.heap.size w w' := by
  obtain ⟨k, x, R, e1, e2, k4, ok⟩ := fok_nat h
  rw [← hb, keepsP, e1, e2, Int.toNat_natCast, Int.toNat_natCast]
  exact keeps_any ok k4 okr w
theorem l06Keeps_p {p : Int × Int} (h : isF p.1 p.2 = true) {P y Q : Nat} (okr : ROk (P : Int) y Q) {b : Bool} (hb : keepsP p y P = b) (w : World) :
    Calls Try.prog 81 #[.agg #[.int .i64 p.1, .int .i64 p.2], .agg #[.int .i64 P, .int .i64 y]] w fun e w' => e = .returned (.bool b) ∧ Below w.heap.size w w' := by
  obtain ⟨k, x, R, e1, e2, k4, ok⟩ := fok_nat h
  rw [← hb, keepsP, e1, e2, Int.toNat_natCast, Int.toNat_natCast]
  exact l06Keeps_any ok k4 okr w

theorem keeps_pn {n : Int} {P : Nat} (hn : n = (P : Int)) {p : Int × Int} (h : isF p.1 p.2 = true) {y Q : Nat} (okr : ROk n y Q) {b : Bool} (hb : keepsP p y P = b) (w : World) :
    Calls Try.prog 84 #[.agg #[.int .i64 p.1, .int .i64 p.2], .agg #[.int .i64 n, .int .i64 y]] w fun e w' => e = .returned (.bool b) ∧ Below w.heap.size w w' := by
  subst hn; exact keeps_p h okr hb w
theorem l06Keeps_pn {n : Int} {P : Nat} (hn : n = (P : Int)) {p : Int × Int} (h : isF p.1 p.2 = true) {y Q : Nat} (okr : ROk n y Q) {b : Bool} (hb : keepsP p y P = b) (w : World) :
    Calls Try.prog 81 #[.agg #[.int .i64 p.1, .int .i64 p.2], .agg #[.int .i64 n, .int .i64 y]] w fun e w' => e = .returned (.bool b) ∧ Below w.heap.size w w' := by
  subst hn; exact l06Keeps_p h okr hb w

/-- The first i functions keep it. -/
def keepTo (xs : List (Int × Int)) (y P i : Nat) : Bool := allLt i fun j => keepsP (fget xs j) y P
theorem keepTo_succ (xs : List (Int × Int)) (y P i : Nat) : keepTo xs y P (i + 1) = (keepTo xs y P i && keepsP (fget xs i) y P) := allLt_succ _ _
theorem keepTo_no {xs : List (Int × Int)} {y P i L : Nat} (hi : i < L) (h : keepsP (fget xs i) y P = false) : keepTo xs y P L = false := by
  cases hc : keepTo xs y P L
  · rfl
  · have := allLt_iff.1 hc i hi
    rw [h] at this; cases this
/-- The relations kept, among those below k. -/
def rkL (n : Int) (xs : List (Int × Int)) (P L k : Nat) : List (Int × Int) := ((List.range k).filter fun y => keepTo xs y P L).map fun (y : Nat) => (n, (y : Int))
theorem rkL_yes {n : Int} {xs : List (Int × Int)} {P L k : Nat} (h : keepTo xs k P L = true) : rkL n xs P L (k + 1) = rkL n xs P L k ++ [(n, (k : Int))] := by simp [rkL, List.range_succ, h]
theorem rkL_no {n : Int} {xs : List (Int × Int)} {P L k : Nat} (h : keepTo xs k P L = false) : rkL n xs P L (k + 1) = rkL n xs P L k := by simp [rkL, List.range_succ, h]
theorem rkL_len (n : Int) (xs : List (Int × Int)) (P L k : Nat) : (rkL n xs P L k).length ≤ k := by
  unfold rkL
  rw [List.length_map]
  exact Nat.le_trans (List.length_filter_le _ _) (by simp)
theorem allTo_at {xs : List (Int × Int)} {L i : Nat} (h : allTo xs L = true) (hi : i < L) : isF (fget xs i).1 (fget xs i).2 = true := by
  cases hf : isF (fget xs i).1 (fget xs i).2
  · have := allTo_false hi hf
    rw [h] at this; cases this
  · rfl

set_option maxRecDepth 100000 in
set_option maxHeartbeats 8000000 in
theorem implRelationsKept_yes {base : Nat} {s : Value} {xs : List (Int × Int)} (hl : xs.length ≤ 1048576) (hc0 : codeL xs = 0) (hall : allTo xs xs.length = true) {n : Int} {P Q T : Nat} (hnP : n = (P : Int)) (hP1 : 1 ≤ n) (hP3 : n ≤ 3) (hA : Hid (allN n = (T : Int) - 1)) (hT0 : 0 < T) (hT16 : T ≤ 65536) (ok : ∀ y, y < T → ROk n y Q) (w : World) (h : OwnsF w base s xs) :
    Calls Try.prog 71 #[s, .int .i64 n] w (RListCodePost w.heap.size (rkL n xs P xs.length T) 0 w) := by
  obtain ⟨i0, hi, hz0, hz1, hz2⟩ := info_parts infoR
  have LC := Lib.hid (listCode_any hl w h hc0)
  obtain ⟨a, cap, rfl, hrow⟩ := h.cells
  have HROW := Lib.hid hrow
  have HALL := Lib.hid hall
  have HOK := Lib.hid ok
  have HNP := Lib.hid hnP
  clear h hrow hall hc0 ok hnP
  generalize hL : xs.length = L at hl HROW HALL LC ⊢
  have hd1 : decide (n < 1) = false := by simp; omega
  have hd2 : decide (3 < n) = false := by simp; omega
  have GB : ∀ w, Calls Try.prog 135 #[.int .i64 n] w fun e w' => e = .returned (.int .i64 ((T : Int) - 1)) ∧ w = w' := fun w => by
    have := greatestBits_any (n := n) (by omega) (by omega) w
    rwa [hA.out] at this
  have hw1 : IntKind.i64.wrap ((T : Int) - 1 + 1) = (T : Int) := by rw [wrap64_small (by omega) (by omega)]; omega
  go_enter Try.func71, Try.ntmps71
  go_wp2
  go_step3
  go_wp2_with (first
    | (go_at_call 95; refine LC.out.mono ?_; rintro e w2 ⟨rfl, hb2⟩)
    | (go_at_call 135; refine (GB _).mono ?_; rintro e w' ⟨rfl, rfl⟩))
  go_step3
  go_wp2_with (first
    | (go_at_call 95; refine LC.out.mono ?_; rintro e w2 ⟨rfl, hb2⟩)
    | (go_at_call 135; refine (GB _).mono ?_; rintro e w' ⟨rfl, rfl⟩))
  go_loopw [7, 26] (fun v' y' wr => ∃ y : Nat, y ≤ T ∧ y' = .int .i64 y ∧ OwnsR wr w2.heap.size v' (rkL n xs P L y) ∧ Below w2.heap.size w2 wr)
    (fun _ y' _ => T - (intOf y').toNat)
  case atStart => exact ⟨0, Nat.zero_le _, rfl, OwnsR.nil _ _, Below.refl _ _⟩
  case round =>
    obtain ⟨y, hy, rfl, hown, hN⟩ := hrel
    by_cases hlt : y < T
    · have okr := HOK.out y hlt
      have hle := rkL_len n xs P L y
      obtain ⟨W1, hW1⟩ : ∃ W1, wr.alloc (.cells #[.int .i64 n, .int .i64 (y : Int)] 36) = W1 := ⟨_, rfl⟩
      have q0 : W1.cell? ⟨wr.heap.size, 0, none⟩ = some (.int .i64 n) := by rw [← hW1]; simp [go_sem]
      have q1 : W1.cell? ⟨wr.heap.size, 1, none⟩ = some (.int .i64 (y : Int)) := by rw [← hW1]; simp [go_sem]
      have hB1 : Below wr.heap.size wr W1 := by rw [← hW1]; exact bnew _ _
      have HOWN := Lib.hid (hown.below hB1)
      have HN1 := Lib.hid (bthen hN hB1)
      clear hown hN
      obtain ⟨B, hB⟩ : ∃ B, B = wr.heap.size := ⟨_, rfl⟩
      rw [← hB] at q0 q1
      go_wp2
      try rw [← hB]
      clear hB
      clear hW1
      go_loopw [34] (fun i' wr => ∃ i : Nat, i ≤ L ∧ i' = .int .i64 i ∧ Hid (keepTo xs y P i = true) ∧ Below W1.heap.size W1 wr) (fun i' _ => L - (intOf i').toNat)
      case atStart => exact ⟨0, Nat.zero_le _, rfl, Lib.hid rfl, Below.refl _ _⟩
      case round =>
        obtain ⟨i, hi', rfl, hk, hM⟩ := hrel
        have d0 := kc hM q0
        have d1 := kc hM q1
        have hbig := bthen hb2 (bthen HN1.out hM)
        by_cases hil : i < L
        · clear d0 d1
          have d0 := kc hM q0
          have d1 := kc hM q1
          obtain ⟨g, rfl, hg, hc⟩ : ∃ g, a = some ⟨g, 0, none⟩ ∧ g < w.heap.size ∧ Hid (∀ j, j < L → w.cell? ⟨g, j * 2, none⟩ = some (.int .i64 (fget xs j).1) ∧ w.cell? ⟨g, j * 2 + 1, none⟩ = some (.int .i64 (fget xs j).2)) := by
            rcases HROW.out with h0 | h1
            · omega
            · exact h1
          obtain ⟨c0, c1⟩ := hc.out i hil
          have e0 := (hbig.cell (p := ⟨g, i * 2, none⟩) hg).trans c0
          have e1 := (hbig.cell (p := ⟨g, i * 2 + 1, none⟩) hg).trans c1
          clear c0 c1
          have hf := allTo_at HALL.out hil
          have lB : B < wr.heap.size := cell_lt d0
          cases hkp : keepsP (fget xs i) y P
          · have KP := Lib.hid (keeps_pn HNP.out hf okr hkp)
            have HNO := Lib.hid (rkL_no (keepTo_no hil hkp) : rkL n xs P L (y + 1) = rkL n xs P L y)
            generalize fget xs i = p at e0 e1 KP
            clear hf hkp hk
            go_wp2_with (go_at_call 84; refine (KP.out _).mono ?_; rintro e w5 ⟨rfl, hb5⟩)
            go_roundw
            case rel => exact ⟨y + 1, by omega, by go_num, by rw [HNO.out]; exact (HOWN.out.below (bthen hM (bnew _ _))).below hb5, bthen HN1.out (bthen (bthen hM (bnew _ _)) hb5)⟩
            case measure => simp [intOf]; omega
          · have KP := Lib.hid (keeps_pn HNP.out hf okr hkp)
            have HK2 : Hid (keepTo xs y P (i + 1) = true) := Lib.hid (by rw [keepTo_succ, hk.out, hkp]; rfl)
            generalize fget xs i = p at e0 e1 KP
            clear hf hkp hk
            go_wp2_with (go_at_call 84; refine (KP.out _).mono ?_; rintro e w5 ⟨rfl, hb5⟩)
            go_roundw
            case rel => exact ⟨i + 1, by omega, by go_num, HK2, bthen (bthen hM (bnew _ _)) hb5⟩
            case measure => simp [intOf]; omega
        · obtain rfl : i = L := by omega
          have HS := Lib.hid (rkL_yes (n := n) hk.out)
          have hown5 : World.ownsRow _ _ _ _ _ _ _ := HOWN.out.below hM
          have hN5 := bthen HN1.out hM
          have hs5 := hN5.size
          go_wp2_with (at_builtin; refine wpList_append_own _ rfl _ _ 27 rfl w2.heap.size 36 i0 (.agg #[.int .i64 0, .int .i64 0]) 2 16 Try.underlying27 hi hz0 hz1 hz2 rfl (by decide) _ _ _ rfl (hown5.alloc _) ⟨wr.heap.size, 0, none⟩ 1 1 [.int .i64 n, .int .i64 (y : Int)] rfl rfl (cell_two_new _ _ _ _) (one_cell_two _ _) (by unfold maxLen; omega) (by omega) (by simp; omega) ?_)
          intro v' w1 hown' hgrow _
          have hN' := (balloc hN5 (.cells #[.int .i64 n, .int .i64 (y : Int)] 36)).grown hgrow (by simp; omega) (fun j e => (hown5.lt j e).1)
          clear hgrow hown5 hN5 d0 d1 q0 q1
          go_wp2
          go_roundw
          case rel => exact ⟨y + 1, by omega, by go_num, by rw [HS.out]; exact OwnsR.snoc hown', hN'⟩
          case measure => simp [intOf]; omega
    · obtain rfl : y = T := by omega
      have ho := Lib.hid hown
      clear hown
      go_wp2
      rw [Exit.noGoto_ret]
      go_ret2
      exact ⟨_, rfl, ho.out.mono hb2.size, bthen hb2 hN⟩
end Go.Proofs.Ytcolaggkeekgoab

/- RK2:
  RelationsKept of the model; both packages. -/
namespace Go.Proofs.Ytcolaggkeekgoab
open Go.RowKit
set_option linter.unusedVariables false
set_option linter.unusedSimpArgs false

theorem keepTo_mono {xs : List (Int × Int)} {y P i L : Nat} (hi : i ≤ L) (h : keepTo xs y P i = false) : keepTo xs y P L = false := by
  cases hc : keepTo xs y P L
  · rfl
  · have h2 : keepTo xs y P i = true := allLt_iff.2 fun j hj => allLt_iff.1 hc j (by omega)
    rw [h] at h2; cases h2

set_option maxRecDepth 100000 in
set_option maxHeartbeats 8000000 in
theorem specRelationsKept_yes {base : Nat} {s : Value} {xs : List (Int × Int)} (hl : xs.length ≤ 1048576) (hc0 : codeL xs = 0) (hall : allTo xs xs.length = true) {n : Int} {P Q T : Nat} (hnP : n = (P : Int)) (hP1 : 1 ≤ n) (hP3 : n ≤ 3) (hA : Hid (allN n = (T : Int) - 1)) (hT0 : 0 < T) (hT16 : T ≤ 65536) (ok : ∀ y, y < T → ROk n y Q) (w : World) (h : OwnsF w base s xs) :
    Calls Try.prog 72 #[s, .int .i64 n] w (RListCodePost w.heap.size (rkL n xs P xs.length T) 0 w) := by
  obtain ⟨i0, hi, hz0, hz1, hz2⟩ := info_parts infoR
  have LC := Lib.hid (l02Code_any hl w h hc0)
  obtain ⟨a, cap, rfl, hrow⟩ := h.cells
  have HROW := Lib.hid hrow
  have HALL := Lib.hid hall
  have HOK := Lib.hid ok
  have HNP := Lib.hid hnP
  clear h hrow hall hc0 ok hnP
  generalize hL : xs.length = L at hl HROW HALL LC ⊢
  have hin := inB_true hP1 hP3
  have GB : ∀ w, Calls Try.prog 80 #[.int .i64 n] w fun e w' => e = .returned (.int .i64 ((T : Int) - 1)) ∧ w = w' := fun w => by
    have := l01All_any n (by omega) (by omega) w
    rwa [hA.out] at this
  go_enter Try.func72, Try.ntmps72
  go_wp2_with (first
    | (go_at_call 91; refine LC.out.mono ?_; rintro e w2 ⟨rfl, hb2⟩)
    | (go_at_call 79; refine (l01In_is hin _).mono ?_; rintro e w' ⟨rfl, rfl⟩))
  go_loopw [7, 8] (fun v' y' wr => ∃ y : Nat, y ≤ T ∧ y' = .int .i64 y ∧ OwnsR wr w2.heap.size v' (rkL n xs P L y) ∧ Below w2.heap.size w2 wr)
    (fun _ y' _ => T - (intOf y').toNat)
  case atStart => exact ⟨0, Nat.zero_le _, rfl, World.ownsRow_lit w2 #[] 0 (Nat.le_refl _) (by decide) rfl, bnew _ _⟩
  case round =>
    obtain ⟨y, hy, rfl, hown, hN⟩ := hrel
    by_cases hlt : y < T
    · have okr := HOK.out y hlt
      have hle := rkL_len n xs P L y
      obtain ⟨W1, hW1⟩ : ∃ W1, wr.alloc (.cells #[.int .i64 n, .int .i64 (y : Int)] 36) = W1 := ⟨_, rfl⟩
      have q0 : W1.cell? ⟨wr.heap.size, 0, none⟩ = some (.int .i64 n) := by rw [← hW1]; simp [go_sem]
      have q1 : W1.cell? ⟨wr.heap.size, 1, none⟩ = some (.int .i64 (y : Int)) := by rw [← hW1]; simp [go_sem]
      have hB1 : Below wr.heap.size wr W1 := by rw [← hW1]; exact bnew _ _
      have HOWN := Lib.hid (hown.below hB1)
      have HN1 := Lib.hid (bthen hN hB1)
      clear hown hN
      obtain ⟨B, hB⟩ : ∃ B, B = wr.heap.size := ⟨_, rfl⟩
      rw [← hB] at q0 q1
      have hdec : decide ((y : Int) ≤ (T : Int) - 1) = true := by simp; omega
      go_wp2_with (go_at_call 80; refine (GB _).mono ?_; rintro e w' ⟨rfl, rfl⟩)
      try rw [← hB]
      clear hB
      clear hW1
      go_loopw [10, 11] (fun k' i' wr => ∃ i : Nat, i ≤ L ∧ i' = .int .i64 i ∧ k' = .bool (keepTo xs y P i) ∧ Below W1.heap.size W1 wr) (fun _ i' _ => L - (intOf i').toNat)
      case atStart => exact ⟨0, Nat.zero_le _, rfl, rfl, Below.refl _ _⟩
      case round =>
        obtain ⟨i, hi', rfl, rfl, hM⟩ := hrel
        have d0 := kc hM q0
        have d1 := kc hM q1
        have hbig := bthen hb2 (bthen HN1.out hM)
        cases hk : keepTo xs y P i
        · have HNO := Lib.hid (rkL_no (keepTo_mono hi' hk) : rkL n xs P L (y + 1) = rkL n xs P L y)
          have hN5 := bthen HN1.out hM
          clear hk
          have hdd : decide ((i : Int) < (L : Int)) = true ∨ decide ((i : Int) < (L : Int)) = false := by cases decide ((i : Int) < (L : Int)) <;> simp
          by_cases hil : i < L
          · go_wp2
            go_roundw
            case rel => exact ⟨y + 1, by omega, by go_num, by rw [HNO.out]; exact HOWN.out.below hM, hN5⟩
            case measure => simp [intOf]; omega
          · go_wp2
            go_roundw
            case rel => exact ⟨y + 1, by omega, by go_num, by rw [HNO.out]; exact HOWN.out.below hM, hN5⟩
            case measure => simp [intOf]; omega
        · by_cases hil : i < L
          · obtain ⟨g, rfl, hg, hc⟩ : ∃ g, a = some ⟨g, 0, none⟩ ∧ g < w.heap.size ∧ Hid (∀ j, j < L → w.cell? ⟨g, j * 2, none⟩ = some (.int .i64 (fget xs j).1) ∧ w.cell? ⟨g, j * 2 + 1, none⟩ = some (.int .i64 (fget xs j).2)) := by
              rcases HROW.out with h0 | h1
              · omega
              · exact h1
            obtain ⟨c0, c1⟩ := hc.out i hil
            have e0 := (hbig.cell (p := ⟨g, i * 2, none⟩) hg).trans c0
            have e1 := (hbig.cell (p := ⟨g, i * 2 + 1, none⟩) hg).trans c1
            clear c0 c1
            have hf := allTo_at HALL.out hil
            obtain ⟨bk, hbk⟩ : ∃ bk, keepsP (fget xs i) y P = bk := ⟨_, rfl⟩
            have KP := Lib.hid (l06Keeps_pn HNP.out hf okr hbk)
            have HK2 : Hid (keepTo xs y P (i + 1) = bk) := Lib.hid (by rw [keepTo_succ, hk, hbk]; rfl)
            clear hf hbk hk
            obtain ⟨p1, hp1⟩ : ∃ p1, (fget xs i).1 = p1 := ⟨_, rfl⟩
            obtain ⟨p2, hp2⟩ : ∃ p2, (fget xs i).2 = p2 := ⟨_, rfl⟩
            rw [hp1] at e0 KP
            rw [hp2] at e1 KP
            clear hp1 hp2
            have MK : Hid (∀ W : World, Below wr.heap.size wr W → (((W.cell? ⟨B, 0, none⟩ = some (.int .i64 n) ∧ W.cell? ⟨B, 1, none⟩ = some (.int .i64 (y : Int))) ∧ (W.cell? ⟨g, i * 2, none⟩ = some (.int .i64 p1) ∧ W.cell? ⟨g, i * 2 + 1, none⟩ = some (.int .i64 p2))) ∧ Below wr.heap.size wr W)) := Lib.hid fun W h => ⟨⟨⟨kc h d0, kc h d1⟩, ⟨kc h e0, kc h e1⟩⟩, h⟩
            go_wp2
            go_region_held3 (fun W => ((W.cell? ⟨B, 0, none⟩ = some (.int .i64 n) ∧ W.cell? ⟨B, 1, none⟩ = some (.int .i64 (y : Int))) ∧ (W.cell? ⟨g, i * 2, none⟩ = some (.int .i64 p1) ∧ W.cell? ⟨g, i * 2 + 1, none⟩ = some (.int .i64 p2))) ∧ Below wr.heap.size wr W)
              (first | with_reducible exact MK.out _ (Below.refl _ _).drew | (with_reducible exact MK.out _ ((Below.refl _ _).drew.trans (hb5.mono (by simp)))) | with_reducible assumption)
              (first
                | (go_at_call 81; refine (KP.out _).mono ?_; rintro e w5 ⟨rfl, hb5⟩; have T8 := MK.out w5 ((Below.refl wr.heap.size wr).drew.trans hb5)))
            all_goals
              have hM5 := bthen hM T8.2
              clear T8
              go_wp2
              go_roundw
              case rel => exact ⟨i + 1, by omega, by go_num, by rw [HK2.out], hM5⟩
              case measure => simp [intOf]; omega
          · obtain rfl : i = L := by omega
            have HS := Lib.hid (rkL_yes (n := n) hk)
            have hown5 : World.ownsRow _ _ _ _ _ _ _ := HOWN.out.below hM
            have hN5 := bthen HN1.out hM
            have hs5 := hN5.size
            clear hk
            go_wp2_with (at_builtin; refine wpList_append_own _ rfl _ _ 27 rfl w2.heap.size 36 i0 (.agg #[.int .i64 0, .int .i64 0]) 2 16 Try.underlying27 hi hz0 hz1 hz2 rfl (by decide) _ _ _ rfl (hown5.alloc _) ⟨wr.heap.size, 0, none⟩ 1 1 [.int .i64 n, .int .i64 (y : Int)] rfl rfl (cell_two_new _ _ _ _) (one_cell_two _ _) (by unfold maxLen; omega) (by omega) (by simp; omega) ?_)
            intro v' w1 hown' hgrow _
            have hN' := (balloc hN5 (.cells #[.int .i64 n, .int .i64 (y : Int)] 36)).grown hgrow (by simp; omega) (fun j e => (hown5.lt j e).1)
            clear hgrow hown5 hN5 d0 d1 q0 q1
            go_wp2
            go_roundw
            case rel => exact ⟨y + 1, by omega, by go_num, by rw [HS.out]; exact OwnsR.snoc hown', hN'⟩
            case measure => simp [intOf]; omega
    · obtain rfl : y = T := by omega
      have ho := Lib.hid hown
      clear hown
      go_wp2_with (go_at_call 80; refine (GB _).mono ?_; rintro e w' ⟨rfl, rfl⟩)
      go_ret2
      exact ⟨_, rfl, ho.out.mono hb2.size, bthen hb2 hN⟩
end Go.Proofs.Ytcolaggkeekgoab

/- RK3:
  RelationsKept in both packages. -/
namespace Go.Proofs.Ytcolaggkeekgoab
open Go.RowKit
set_option linter.unusedVariables false
set_option linter.unusedSimpArgs false

set_option maxRecDepth 100000 in
set_option maxHeartbeats 2000000 in
theorem implRelationsKept_code {base : Nat} {s : Value} {xs : List (Int × Int)} (hl : xs.length ≤ 1048576) {c : Int} (hc : codeL xs = c) (hz : (c != 0) = true) (hz2 : (c == 0) = false) (n : Int) (w : World) (h : OwnsF w base s xs) :
    Calls Try.prog 71 #[s, .int .i64 n] w (RListCodePost w.heap.size [] c w) := by
  go_enter Try.func71, Try.ntmps71
  go_wp2
  go_step3
  go_wp2_with (first
    | (go_at_call 95; refine (listCode_any hl w h hc).mono ?_; rintro e w2 ⟨rfl, hb2⟩))
  rw [Exit.noGoto_ret]
  go_ret2
  exact ⟨_, rfl, OwnsR.nil _ _, hb2⟩

set_option maxRecDepth 100000 in
set_option maxHeartbeats 2000000 in
theorem specRelationsKept_code {base : Nat} {s : Value} {xs : List (Int × Int)} (hl : xs.length ≤ 1048576) {c : Int} (hc : codeL xs = c) (hz : (c != 0) = true) (hz2 : (c == 0) = false) (n : Int) (w : World) (h : OwnsF w base s xs) :
    Calls Try.prog 72 #[s, .int .i64 n] w (RListCodePost w.heap.size [] c w) := by
  go_enter Try.func72, Try.ntmps72
  go_wp2_with (go_at_call 91; refine (l02Code_any hl w h hc).mono ?_; rintro e w2 ⟨rfl, hb2⟩)
  go_ret2
  exact ⟨_, rfl, OwnsR.nil _ _, hb2⟩

set_option maxRecDepth 100000 in
set_option maxHeartbeats 2000000 in
theorem implRelationsKept_lo {base : Nat} {s : Value} {xs : List (Int × Int)} (hl : xs.length ≤ 1048576) (hc : codeL xs = 0) {n : Int} (h : n < 1) (w : World) (ho : OwnsF w base s xs) :
    Calls Try.prog 71 #[s, .int .i64 n] w (RListCodePost w.heap.size [] 2 w) := by
  have hd1 : decide (n < 1) = true := by simpa using h
  go_enter Try.func71, Try.ntmps71
  go_wp2
  go_step3
  go_wp2_with (first
    | (go_at_call 95; refine (listCode_any hl w ho hc).mono ?_; rintro e w2 ⟨rfl, hb2⟩))
  rw [Exit.noGoto_ret]
  go_ret2
  exact ⟨_, rfl, OwnsR.nil _ _, hb2⟩

set_option maxRecDepth 100000 in
set_option maxHeartbeats 2000000 in
theorem implRelationsKept_hi {base : Nat} {s : Value} {xs : List (Int × Int)} (hl : xs.length ≤ 1048576) (hc : codeL xs = 0) {n : Int} (h : 3 < n) (w : World) (ho : OwnsF w base s xs) :
    Calls Try.prog 71 #[s, .int .i64 n] w (RListCodePost w.heap.size [] 2 w) := by
  have hd1 : decide (n < 1) = false := by simp; omega
  have hd2 : decide (3 < n) = true := by simpa using h
  go_enter Try.func71, Try.ntmps71
  go_wp2
  go_step3
  go_wp2_with (first
    | (go_at_call 95; refine (listCode_any hl w ho hc).mono ?_; rintro e w2 ⟨rfl, hb2⟩))
  rw [Exit.noGoto_ret]
  go_ret2
  exact ⟨_, rfl, OwnsR.nil _ _, hb2⟩

set_option maxRecDepth 100000 in
set_option maxHeartbeats 2000000 in
theorem specRelationsKept_lo {base : Nat} {s : Value} {xs : List (Int × Int)} (hl : xs.length ≤ 1048576) (hc : codeL xs = 0) {n : Int} (h : n < 1) (w : World) (ho : OwnsF w base s xs) :
    Calls Try.prog 72 #[s, .int .i64 n] w (RListCodePost w.heap.size [] 2 w) := by
  have hin : inB n 1 3 = false := inB_false (by omega)
  go_enter Try.func72, Try.ntmps72
  go_wp2_with (first
    | (go_at_call 91; refine (l02Code_any hl w ho hc).mono ?_; rintro e w2 ⟨rfl, hb2⟩)
    | (go_at_call 79; refine (l01In_is hin _).mono ?_; rintro e w' ⟨rfl, rfl⟩))
  go_ret2
  exact ⟨_, rfl, OwnsR.nil _ _, hb2⟩

set_option maxRecDepth 100000 in
set_option maxHeartbeats 2000000 in
theorem specRelationsKept_hi {base : Nat} {s : Value} {xs : List (Int × Int)} (hl : xs.length ≤ 1048576) (hc : codeL xs = 0) {n : Int} (h : 3 < n) (w : World) (ho : OwnsF w base s xs) :
    Calls Try.prog 72 #[s, .int .i64 n] w (RListCodePost w.heap.size [] 2 w) := by
  have hin : inB n 1 3 = false := inB_false (by omega)
  go_enter Try.func72, Try.ntmps72
  go_wp2_with (first
    | (go_at_call 91; refine (l02Code_any hl w ho hc).mono ?_; rintro e w2 ⟨rfl, hb2⟩)
    | (go_at_call 79; refine (l01In_is hin _).mono ?_; rintro e w' ⟨rfl, rfl⟩))
  go_ret2
  exact ⟨_, rfl, OwnsR.nil _ _, hb2⟩

theorem bothRelationsKept {xs : List (Int × Int)} (hl : xs.length ≤ 1048576) (n : Int) : ∃ (ys : List (Int × Int)) (rc : Int), ys.length ≤ 100000 ∧
    (∀ base s w, OwnsF w base s xs → Calls Try.prog 72 #[s, .int .i64 n] w (RListCodePost w.heap.size ys rc w)) ∧
    (∀ base s w, OwnsF w base s xs → Calls Try.prog 71 #[s, .int .i64 n] w (RListCodePost w.heap.size ys rc w)) := by
  by_cases hc : codeL xs = 0
  · have hall : allTo xs xs.length = true := by
      unfold codeL at hc
      cases h : allTo xs xs.length
      · rw [h] at hc; simp at hc
      · rfl
    by_cases h1 : n < 1
    · exact ⟨[], 2, by simp, fun base s w ho => specRelationsKept_lo hl hc h1 w ho, fun base s w ho => implRelationsKept_lo hl hc h1 w ho⟩
    · by_cases h3 : 3 < n
      · exact ⟨[], 2, by simp, fun base s w ho => specRelationsKept_hi hl hc h3 w ho, fun base s w ho => implRelationsKept_hi hl hc h3 w ho⟩
      · obtain ⟨R, T, r0, r16, hR, hT, hT0, hT16, hA, ok⟩ := arity_nums (n := n) (by omega) (by omega)
        have okr : ∀ y, y < T → ROk n y R := fun y hy => { ok y hy with h1 := by omega }
        have hnP : n = (n.toNat : Int) := by omega
        refine ⟨rkL n xs n.toNat xs.length T, 0, by have := rkL_len n xs n.toNat xs.length T; omega, fun base s w ho => ?_, fun base s w ho => ?_⟩
        · exact specRelationsKept_yes hl hc hall hnP (by omega) (by omega) hA hT0 hT16 okr w ho
        · exact implRelationsKept_yes hl hc hall hnP (by omega) (by omega) hA hT0 hT16 okr w ho
  · have hz : (codeL xs != 0) = true := by simpa using hc
    have hz2 : (codeL xs == 0) = false := by simpa using hc
    exact ⟨[], codeL xs, by simp, fun base s w ho => specRelationsKept_code hl rfl hz hz2 n w ho, fun base s w ho => implRelationsKept_code hl rfl hz hz2 n w ho⟩
end Go.Proofs.Ytcolaggkeekgoab

/- RE3:
  MeetOf in both packages. -/
namespace Go.Proofs.Ytcolaggkeekgoab
open Go.RowKit
set_option linter.unusedVariables false
set_option linter.unusedSimpArgs false

/-- Natural: the code of two relations. -/
def pairR (n0 b0 n1 b1 : Int) : Bool := isR n0 b0 && isR n1 b1

set_option maxRecDepth 100000 in
set_option maxHeartbeats 2000000 in
theorem implMeetOf_a {n0 b0 n1 b1 : Int} (h0 : isR n0 b0 = false) (w : World) :
    Calls Try.prog 77 #[.agg #[.int .i64 n0, .int .i64 b0], .agg #[.int .i64 n1, .int .i64 b1]] w fun e w' => e = .returned (.tuple #[.agg #[.int .i64 0, .int .i64 0], .int .i64 1]) ∧ Below w.heap.size w w' := by
  obtain ⟨W1, hW1⟩ : ∃ W1, ((w.alloc (.cells #[.int .i64 n0, .int .i64 b0] 36)).alloc (.cells #[.int .i64 n1, .int .i64 b1] 36)).alloc (.cells #[.int .i64 0, .int .i64 0] 36) = W1 := ⟨_, rfl⟩
  have p0 : W1.cell? ⟨w.heap.size, 0, none⟩ = some (.int .i64 n0) := by rw [← hW1]; simp [go_sem]
  have p1 : W1.cell? ⟨w.heap.size, 1, none⟩ = some (.int .i64 b0) := by rw [← hW1]; simp [go_sem]
  have r0 : W1.cell? ⟨w.heap.size + 1, 0, none⟩ = some (.int .i64 n1) := by rw [← hW1]; simp [go_sem]
  have r1 : W1.cell? ⟨w.heap.size + 1, 1, none⟩ = some (.int .i64 b1) := by rw [← hW1]; simp [go_sem]
  have c0 : W1.cell? ⟨w.heap.size + 1 + 1, 0, none⟩ = some (.int .i64 0) := by rw [← hW1]; simp [go_sem]
  have f0 : W1.frozen? ⟨w.heap.size + 1 + 1, 0, none⟩ = false := by rw [← hW1]; simp [go_sem]
  have c1 : W1.cell? ⟨w.heap.size + 1 + 1, 1, none⟩ = some (.int .i64 0) := by rw [← hW1]; simp [go_sem]
  have f1 : W1.frozen? ⟨w.heap.size + 1 + 1, 1, none⟩ = false := by rw [← hW1]; simp [go_sem]
  have hB : Below w.heap.size w W1 := by rw [← hW1]; exact balloc (balloc (bnew _ _) _) _
  go_enter Try.func77, Try.ntmps77
  go_wp2_with fail
  clear hW1
  refine (IsRelation_is h0 _).mono ?_
  rintro e w2 ⟨rfl, hb2⟩
  have ap0 := kc hb2 p0
  have ap1 := kc hb2 p1
  have ar0 := kc hb2 r0
  have ar1 := kc hb2 r1
  have ac0 := kc hb2 c0
  have ac1 := kc hb2 c1
  have af0 := kf hb2 c0 f0
  have af1 := kf hb2 c1 f1
  clear p0 p1 r0 r1 c0 c1 f0 f1
  have hB2 := bthen hB hb2
  go_wp2
  exact bodyPost_ret (v := .tuple #[.agg #[.int .i64 0, .int .i64 0], .int .i64 1]) (by simp [results, Try.results77, go_sem, ac0, ac1]) rfl ⟨rfl, (hB2.setCell (p := ⟨w.heap.size + 1 + 1, 0, none⟩) (by simp; omega) _).setCell (p := ⟨w.heap.size + 1 + 1, 1, none⟩) (by simp; omega) _⟩

set_option maxRecDepth 100000 in
set_option maxHeartbeats 2000000 in
theorem implMeetOf_b {n0 b0 n1 b1 : Int} (h0 : isR n0 b0 = true) (h1 : isR n1 b1 = false) (w : World) :
    Calls Try.prog 77 #[.agg #[.int .i64 n0, .int .i64 b0], .agg #[.int .i64 n1, .int .i64 b1]] w fun e w' => e = .returned (.tuple #[.agg #[.int .i64 0, .int .i64 0], .int .i64 1]) ∧ Below w.heap.size w w' := by
  obtain ⟨W1, hW1⟩ : ∃ W1, ((w.alloc (.cells #[.int .i64 n0, .int .i64 b0] 36)).alloc (.cells #[.int .i64 n1, .int .i64 b1] 36)).alloc (.cells #[.int .i64 0, .int .i64 0] 36) = W1 := ⟨_, rfl⟩
  have p0 : W1.cell? ⟨w.heap.size, 0, none⟩ = some (.int .i64 n0) := by rw [← hW1]; simp [go_sem]
  have p1 : W1.cell? ⟨w.heap.size, 1, none⟩ = some (.int .i64 b0) := by rw [← hW1]; simp [go_sem]
  have r0 : W1.cell? ⟨w.heap.size + 1, 0, none⟩ = some (.int .i64 n1) := by rw [← hW1]; simp [go_sem]
  have r1 : W1.cell? ⟨w.heap.size + 1, 1, none⟩ = some (.int .i64 b1) := by rw [← hW1]; simp [go_sem]
  have c0 : W1.cell? ⟨w.heap.size + 1 + 1, 0, none⟩ = some (.int .i64 0) := by rw [← hW1]; simp [go_sem]
  have f0 : W1.frozen? ⟨w.heap.size + 1 + 1, 0, none⟩ = false := by rw [← hW1]; simp [go_sem]
  have c1 : W1.cell? ⟨w.heap.size + 1 + 1, 1, none⟩ = some (.int .i64 0) := by rw [← hW1]; simp [go_sem]
  have f1 : W1.frozen? ⟨w.heap.size + 1 + 1, 1, none⟩ = false := by rw [← hW1]; simp [go_sem]
  have hB : Below w.heap.size w W1 := by rw [← hW1]; exact balloc (balloc (bnew _ _) _) _
  go_enter Try.func77, Try.ntmps77
  go_wp2_with fail
  clear hW1
  refine (IsRelation_is h0 _).mono ?_
  rintro e w2 ⟨rfl, hb2⟩
  have ap0 := kc hb2 p0
  have ap1 := kc hb2 p1
  have ar0 := kc hb2 r0
  have ar1 := kc hb2 r1
  have ac0 := kc hb2 c0
  have ac1 := kc hb2 c1
  have af0 := kf hb2 c0 f0
  have af1 := kf hb2 c1 f1
  clear p0 p1 r0 r1 c0 c1 f0 f1
  have hB2 := bthen hB hb2
  go_wp2_with fail
  refine (IsRelation_is h1 _).mono ?_
  rintro e w3 ⟨rfl, hb3⟩
  have bp0 := kc hb3 ap0
  have bp1 := kc hb3 ap1
  have br0 := kc hb3 ar0
  have br1 := kc hb3 ar1
  have bc0 := kc hb3 ac0
  have bc1 := kc hb3 ac1
  have bf0 := kf hb3 ac0 af0
  have bf1 := kf hb3 ac1 af1
  clear ap0 ap1 ar0 ar1 ac0 ac1 af0 af1
  have hB3 := bthen hB2 hb3
  go_wp2
  exact bodyPost_ret (v := .tuple #[.agg #[.int .i64 0, .int .i64 0], .int .i64 1]) (by simp [results, Try.results77, go_sem, bc0, bc1]) rfl ⟨rfl, (hB3.setCell (p := ⟨w.heap.size + 1 + 1, 0, none⟩) (by simp; omega) _).setCell (p := ⟨w.heap.size + 1 + 1, 1, none⟩) (by simp; omega) _⟩

set_option maxRecDepth 100000 in
set_option maxHeartbeats 2000000 in
theorem implMeetOf_c {n0 b0 n1 b1 : Int} (h0 : isR n0 b0 = true) (h1 : isR n1 b1 = true) (hn : n0 ≠ n1) (w : World) :
    Calls Try.prog 77 #[.agg #[.int .i64 n0, .int .i64 b0], .agg #[.int .i64 n1, .int .i64 b1]] w fun e w' => e = .returned (.tuple #[.agg #[.int .i64 0, .int .i64 0], .int .i64 2]) ∧ Below w.heap.size w w' := by
  have hq : (n0 != n1) = true := by simp [hn]
  clear hn
  obtain ⟨W1, hW1⟩ : ∃ W1, ((w.alloc (.cells #[.int .i64 n0, .int .i64 b0] 36)).alloc (.cells #[.int .i64 n1, .int .i64 b1] 36)).alloc (.cells #[.int .i64 0, .int .i64 0] 36) = W1 := ⟨_, rfl⟩
  have p0 : W1.cell? ⟨w.heap.size, 0, none⟩ = some (.int .i64 n0) := by rw [← hW1]; simp [go_sem]
  have p1 : W1.cell? ⟨w.heap.size, 1, none⟩ = some (.int .i64 b0) := by rw [← hW1]; simp [go_sem]
  have r0 : W1.cell? ⟨w.heap.size + 1, 0, none⟩ = some (.int .i64 n1) := by rw [← hW1]; simp [go_sem]
  have r1 : W1.cell? ⟨w.heap.size + 1, 1, none⟩ = some (.int .i64 b1) := by rw [← hW1]; simp [go_sem]
  have c0 : W1.cell? ⟨w.heap.size + 1 + 1, 0, none⟩ = some (.int .i64 0) := by rw [← hW1]; simp [go_sem]
  have f0 : W1.frozen? ⟨w.heap.size + 1 + 1, 0, none⟩ = false := by rw [← hW1]; simp [go_sem]
  have c1 : W1.cell? ⟨w.heap.size + 1 + 1, 1, none⟩ = some (.int .i64 0) := by rw [← hW1]; simp [go_sem]
  have f1 : W1.frozen? ⟨w.heap.size + 1 + 1, 1, none⟩ = false := by rw [← hW1]; simp [go_sem]
  have hB : Below w.heap.size w W1 := by rw [← hW1]; exact balloc (balloc (bnew _ _) _) _
  go_enter Try.func77, Try.ntmps77
  go_wp2_with fail
  clear hW1
  refine (IsRelation_is h0 _).mono ?_
  rintro e w2 ⟨rfl, hb2⟩
  have ap0 := kc hb2 p0
  have ap1 := kc hb2 p1
  have ar0 := kc hb2 r0
  have ar1 := kc hb2 r1
  have ac0 := kc hb2 c0
  have ac1 := kc hb2 c1
  have af0 := kf hb2 c0 f0
  have af1 := kf hb2 c1 f1
  clear p0 p1 r0 r1 c0 c1 f0 f1
  have hB2 := bthen hB hb2
  go_wp2_with fail
  refine (IsRelation_is h1 _).mono ?_
  rintro e w3 ⟨rfl, hb3⟩
  have bp0 := kc hb3 ap0
  have bp1 := kc hb3 ap1
  have br0 := kc hb3 ar0
  have br1 := kc hb3 ar1
  have bc0 := kc hb3 ac0
  have bc1 := kc hb3 ac1
  have bf0 := kf hb3 ac0 af0
  have bf1 := kf hb3 ac1 af1
  clear ap0 ap1 ar0 ar1 ac0 ac1 af0 af1
  have hB3 := bthen hB2 hb3
  go_wp2
  exact bodyPost_ret (v := .tuple #[.agg #[.int .i64 0, .int .i64 0], .int .i64 2]) (by simp [results, Try.results77, go_sem, bc0, bc1]) rfl ⟨rfl, (hB3.setCell (p := ⟨w.heap.size + 1 + 1, 0, none⟩) (by simp; omega) _).setCell (p := ⟨w.heap.size + 1 + 1, 1, none⟩) (by simp; omega) _⟩

set_option maxRecDepth 100000 in
set_option maxHeartbeats 2000000 in
theorem implMeetOf_d {n0 b0 n1 b1 : Int} (h0 : isR n0 b0 = true) (h1 : isR n1 b1 = true) (hn : n0 = n1) (w : World) :
    Calls Try.prog 77 #[.agg #[.int .i64 n0, .int .i64 b0], .agg #[.int .i64 n1, .int .i64 b1]] w fun e w' => e = .returned (.tuple #[.agg #[.int .i64 n0, .int .i64 (bits .and .i64 b0 b1)], .int .i64 0]) ∧ Below w.heap.size w w' := by
  have hq : (n0 != n1) = false := by simp [hn]
  clear hn
  obtain ⟨W1, hW1⟩ : ∃ W1, ((w.alloc (.cells #[.int .i64 n0, .int .i64 b0] 36)).alloc (.cells #[.int .i64 n1, .int .i64 b1] 36)).alloc (.cells #[.int .i64 0, .int .i64 0] 36) = W1 := ⟨_, rfl⟩
  have p0 : W1.cell? ⟨w.heap.size, 0, none⟩ = some (.int .i64 n0) := by rw [← hW1]; simp [go_sem]
  have p1 : W1.cell? ⟨w.heap.size, 1, none⟩ = some (.int .i64 b0) := by rw [← hW1]; simp [go_sem]
  have r0 : W1.cell? ⟨w.heap.size + 1, 0, none⟩ = some (.int .i64 n1) := by rw [← hW1]; simp [go_sem]
  have r1 : W1.cell? ⟨w.heap.size + 1, 1, none⟩ = some (.int .i64 b1) := by rw [← hW1]; simp [go_sem]
  have c0 : W1.cell? ⟨w.heap.size + 1 + 1, 0, none⟩ = some (.int .i64 0) := by rw [← hW1]; simp [go_sem]
  have f0 : W1.frozen? ⟨w.heap.size + 1 + 1, 0, none⟩ = false := by rw [← hW1]; simp [go_sem]
  have c1 : W1.cell? ⟨w.heap.size + 1 + 1, 1, none⟩ = some (.int .i64 0) := by rw [← hW1]; simp [go_sem]
  have f1 : W1.frozen? ⟨w.heap.size + 1 + 1, 1, none⟩ = false := by rw [← hW1]; simp [go_sem]
  have hB : Below w.heap.size w W1 := by rw [← hW1]; exact balloc (balloc (bnew _ _) _) _
  go_enter Try.func77, Try.ntmps77
  go_wp2_with fail
  clear hW1
  refine (IsRelation_is h0 _).mono ?_
  rintro e w2 ⟨rfl, hb2⟩
  have ap0 := kc hb2 p0
  have ap1 := kc hb2 p1
  have ar0 := kc hb2 r0
  have ar1 := kc hb2 r1
  have ac0 := kc hb2 c0
  have ac1 := kc hb2 c1
  have af0 := kf hb2 c0 f0
  have af1 := kf hb2 c1 f1
  clear p0 p1 r0 r1 c0 c1 f0 f1
  have hB2 := bthen hB hb2
  go_wp2_with fail
  refine (IsRelation_is h1 _).mono ?_
  rintro e w3 ⟨rfl, hb3⟩
  have bp0 := kc hb3 ap0
  have bp1 := kc hb3 ap1
  have br0 := kc hb3 ar0
  have br1 := kc hb3 ar1
  have bc0 := kc hb3 ac0
  have bc1 := kc hb3 ac1
  have bf0 := kf hb3 ac0 af0
  have bf1 := kf hb3 ac1 af1
  clear ap0 ap1 ar0 ar1 ac0 ac1 af0 af1
  have hB3 := bthen hB2 hb3
  go_wp2
  exact bodyPost_ret (v := .tuple #[.agg #[.int .i64 n0, .int .i64 (bits .and .i64 b0 b1)], .int .i64 0]) (by simp [results, Try.results77, go_sem, bc0, bc1]) rfl ⟨rfl, (hB3.setCell (p := ⟨w.heap.size + 1 + 1, 0, none⟩) (by simp; omega) _).setCell (p := ⟨w.heap.size + 1 + 1, 1, none⟩) (by simp; omega) _⟩

end Go.Proofs.Ytcolaggkeekgoab
