/-
  The texts TU2, TU6, TU7, TU8, TU9, TU10, TU11, L5, I1, I2, J1, J0, TU12 in one.
-/
import Derived.Test.YtcolaggkeekgoabMPProjectRelation6
import Derived.Lib.AppendZeros
import Derived.Laws.Cover3
import Derived.Deep.RegionWith
import Derived.Deep.RegionHeld3

/- TU2:
  slices.Grow of a nil list of numbers, slices.Concat of two and of three lists of numbers. -/
namespace Go.Proofs.Ytcolaggkeekgoab
open Go.RowKit
set_option linter.unusedVariables false
set_option linter.unusedSimpArgs false

set_option maxRecDepth 100000 in
set_option maxHeartbeats 2000000 in
theorem growI_zero (w : World) :
    Calls Try.prog 147 #[.slice none 0 0, .int .i64 0] w fun e w' => e = .returned (.slice none 0 0) ∧ w = w' := by
  go_enter Try.func147, Try.ntmps147
  go_wp2
  go_ret
  exact ⟨rfl, rfl⟩

set_option maxRecDepth 100000 in
set_option maxHeartbeats 2000000 in
theorem growI_some (n : Nat) (h0 : 0 < n) (h8 : n ≤ 8) (w : World) :
    Calls Try.prog 147 #[.slice none 0 0, .int .i64 (n : Int)] w fun e w' => ∃ cap, e = .returned (.slice (some ⟨w.heap.size, 0, none⟩) 0 cap) ∧ w'.ownsRow w.heap.size 2 1 (.slice (some ⟨w.heap.size, 0, none⟩) 0 cap) 0 [] ∧ Below w.heap.size w w' := by
  obtain ⟨i0, hi, hz0, hz1, hz2⟩ := info_parts infoI
  have hrz : ∀ ty, _ := fun ty => Lib.run_append_nil_zeros w 42 3 ty 2 i0 (.int .i64 0) .i64 .i64 Try.underlying42 Try.underlying3 hi hz0 n h0 (by omega) (by omega) (by rw [hz2]; omega)
  have hge := grownCap_ge w n 0 2
  have hle := grownCap_le_maxLen w n 0 2 (by unfold maxLen; omega)
  generalize grownCap w n 0 2 = G at hrz hge hle
  have hn0 : (0 : Int) < (n : Int) := by omega
  have hG63 : G ≤ 9223372036854775807 := by unfold maxLen at hle; omega
  have HL := Lib.hid hle
  clear hle
  go_enter Try.func147, Try.ntmps147
  go_wp2_with (at_builtin; refine Lib.wpList_append_run _ rfl _ _ _ _ rfl _ _ rfl rfl _ _ (hrz _) ?_)
  go_ret
  refine ⟨_, rfl, ⟨rfl, .inr ⟨w.heap.size, G, _, rfl, Nat.le_refl _, heap_alloc_new _ _, Nat.zero_le _, HL.out, ?_, by simp⟩⟩, ?_⟩
  · rw [Array.size_append, size_zeroCells, size_zeroCells]
    show n * 1 + (G - n) * 1 = G * 1
    omega
  · exact (Below.refl _ _).drew.alloc (Nat.le_refl _) _

theorem growI_any (n : Nat) (h8 : n ≤ 8) (w : World) :
    Calls Try.prog 147 #[.slice none 0 0, .int .i64 (n : Int)] w fun e w' => ∃ v, e = .returned v ∧ w'.ownsRow w.heap.size 2 1 v 0 [] ∧ Below w.heap.size w w' := by
  by_cases h0 : n = 0
  · subst h0
    refine (growI_zero w).mono ?_
    rintro e w' ⟨rfl, rfl⟩
    exact ⟨_, rfl, World.ownsRow_nil _ _ _ _, Below.refl _ _⟩
  · refine (growI_some n (by omega) h8 w).mono ?_
    rintro e w' ⟨cap, rfl, h1, h2⟩
    exact ⟨_, rfl, h1, h2⟩

theorem ints_one (ys : List Int) : ∀ u ∈ ints ys, u.oneCell' = true := by
  intro u hu
  obtain ⟨y, _, rfl⟩ := List.mem_map.1 hu
  rfl
theorem ints_append (xs ys : List Int) : ints (xs ++ ys) = ints xs ++ ints ys := by simp [ints]
theorem ints_length' (xs : List Int) : (ints xs).length = xs.length * 1 := by simp [ints]


set_option maxRecDepth 100000 in
set_option maxHeartbeats 4000000 in
theorem concatI2 (q : Nat) (ad1 ad2 : Addr) (c1 c2 : Nat) (ys1 ys2 : List Int) (h8 : ys1.length + ys2.length ≤ 8) (w : World)
    (hq1 : w.cell? ⟨q, 0, none⟩ = some (.slice (some ad1) ys1.length c1)) (hq2 : w.cell? ⟨q, 1, none⟩ = some (.slice (some ad2) ys2.length c2))
    (H1 : Hid (∀ (j : Nat) (u : Value), (ints ys1)[j]? = some u → w.cell? (ad1.add j) = some u)) (H2 : Hid (∀ (j : Nat) (u : Value), (ints ys2)[j]? = some u → w.cell? (ad2.add j) = some u)) :
    Calls Try.prog 88 #[.slice (some ⟨q, 0, none⟩) 2 2] w fun e w' => ∃ v, e = .returned v ∧ Owns w' w.heap.size v (ys1 ++ ys2) ∧ Below w.heap.size w w' := by
  obtain ⟨i0, hi, hz0, hz1, hz2⟩ := info_parts infoI
  have L1 := Lib.hid (ints_length' ys1)
  have O1 := Lib.hid (ints_one ys1)
  obtain ⟨m1, hm1⟩ : ∃ m, ys1.length = m := ⟨_, rfl⟩
  rw [hm1] at L1 hq1 h8
  have HM1 := Lib.hid hm1
  clear hm1
  have L2 := Lib.hid (ints_length' ys2)
  have O2 := Lib.hid (ints_one ys2)
  obtain ⟨m2, hm2⟩ : ∃ m, ys2.length = m := ⟨_, rfl⟩
  rw [hm2] at L2 hq2 h8
  have HM2 := Lib.hid hm2
  clear hm2
  have GR := Lib.hid fun W => (by have := growI_any (m1 + m2) h8 W; rwa [Int.natCast_add] at this : Calls Try.prog 147 #[.slice none 0 0, .int .i64 ((m1 : Int) + (m2 : Int))] W fun e w' => ∃ v, e = .returned v ∧ w'.ownsRow W.heap.size 2 1 v 0 [] ∧ Below W.heap.size W w')
  have hd1 : decide ((m1 : Int) < 0) = false := by simp
  have hd2 : decide ((m1 : Int) + (m2 : Int) < 0) = false := by simp; omega
  go_enter Try.func88, Try.ntmps88
  go_wp2_with fail
  refine wp_loop_rounds 3 ?_
  rw [rounds_succ]
  go_wp2_with fail
  rw [rounds_succ]
  go_wp2_with fail
  rw [rounds_succ]
  go_wp2_with fail
  refine (GR.out _).mono ?_
  rintro e w2 ⟨v, rfl, hown0, hB2⟩
  have q1 := kc hB2 hq1
  have G1 := Lib.hid (fun (j : Nat) (u : Value) (h : (ints ys1)[j]? = some u) => kc hB2 (H1.out j u h))
  have q2 := kc hB2 hq2
  have G2 := Lib.hid (fun (j : Nat) (u : Value) (h : (ints ys2)[j]? = some u) => kc hB2 (H2.out j u h))
  have hsz2 := hB2.size
  go_wp2_with fail
  refine wp_loop_rounds 3 ?_
  rw [rounds_succ]
  go_wp2_with (at_builtin; refine wpList_append_own _ rfl _ _ 42 rfl w.heap.size 2 i0 (.int .i64 0) 1 8 Try.underlying42 hi hz0 hz1 hz2 rfl (by decide) _ _ _ rfl hown0 ad1 m1 c1 (ints ys1) rfl L1.out G1.out O1.out (by unfold maxLen; omega) (by omega) hsz2 ?_)
  intro v1 w3 hown1 hgrow1 _
  have hB3 : Below w.heap.size w w3 := hB2.grown hgrow1 hsz2 (fun j e => (hown0.lt j e).1)
  have hsz3 := hB3.size
  have G2 := Lib.hid (fun (j : Nat) (u : Value) (h : (ints ys2)[j]? = some u) => kc hB3 (H2.out j u h))
  have q1 := kc hB3 hq1
  have q2 := kc hB3 hq2
  clear hown0 hgrow1
  go_wp2_with fail
  rw [rounds_succ]
  go_wp2_with (at_builtin; refine wpList_append_own _ rfl _ _ 42 rfl w.heap.size 2 i0 (.int .i64 0) 1 8 Try.underlying42 hi hz0 hz1 hz2 rfl (by decide) _ _ _ rfl hown1 ad2 m2 c2 (ints ys2) rfl L2.out G2.out O2.out (by unfold maxLen; omega) (by omega) hsz3 ?_)
  intro v2 w4 hown2 hgrow2 _
  have hB4 : Below w.heap.size w w4 := hB3.grown hgrow2 hsz3 (fun j e => (hown1.lt j e).1)
  have hsz4 := hB4.size
  have q1 := kc hB4 hq1
  have q2 := kc hB4 hq2
  clear hown1 hgrow2
  have HO := Lib.hid hown2
  clear hown2
  go_wp2_with fail
  rw [rounds_succ]
  go_wp2
  go_ret
  refine ⟨_, rfl, ?_, hB4⟩
  unfold Owns
  rw [ints_append, List.length_append, HM1.out, HM2.out]
  exact HO.out

set_option maxRecDepth 100000 in
set_option maxHeartbeats 4000000 in
theorem concatI3 (q : Nat) (ad1 ad2 ad3 : Addr) (c1 c2 c3 : Nat) (ys1 ys2 ys3 : List Int) (h8 : ys1.length + ys2.length + ys3.length ≤ 8) (w : World)
    (hq1 : w.cell? ⟨q, 0, none⟩ = some (.slice (some ad1) ys1.length c1)) (hq2 : w.cell? ⟨q, 1, none⟩ = some (.slice (some ad2) ys2.length c2)) (hq3 : w.cell? ⟨q, 2, none⟩ = some (.slice (some ad3) ys3.length c3))
    (H1 : Hid (∀ (j : Nat) (u : Value), (ints ys1)[j]? = some u → w.cell? (ad1.add j) = some u)) (H2 : Hid (∀ (j : Nat) (u : Value), (ints ys2)[j]? = some u → w.cell? (ad2.add j) = some u)) (H3 : Hid (∀ (j : Nat) (u : Value), (ints ys3)[j]? = some u → w.cell? (ad3.add j) = some u)) :
    Calls Try.prog 88 #[.slice (some ⟨q, 0, none⟩) 3 3] w fun e w' => ∃ v, e = .returned v ∧ Owns w' w.heap.size v (ys1 ++ ys2 ++ ys3) ∧ Below w.heap.size w w' := by
  obtain ⟨i0, hi, hz0, hz1, hz2⟩ := info_parts infoI
  have L1 := Lib.hid (ints_length' ys1)
  have O1 := Lib.hid (ints_one ys1)
  obtain ⟨m1, hm1⟩ : ∃ m, ys1.length = m := ⟨_, rfl⟩
  rw [hm1] at L1 hq1 h8
  have HM1 := Lib.hid hm1
  clear hm1
  have L2 := Lib.hid (ints_length' ys2)
  have O2 := Lib.hid (ints_one ys2)
  obtain ⟨m2, hm2⟩ : ∃ m, ys2.length = m := ⟨_, rfl⟩
  rw [hm2] at L2 hq2 h8
  have HM2 := Lib.hid hm2
  clear hm2
  have L3 := Lib.hid (ints_length' ys3)
  have O3 := Lib.hid (ints_one ys3)
  obtain ⟨m3, hm3⟩ : ∃ m, ys3.length = m := ⟨_, rfl⟩
  rw [hm3] at L3 hq3 h8
  have HM3 := Lib.hid hm3
  clear hm3
  have GR := Lib.hid fun W => (by have := growI_any (m1 + m2 + m3) h8 W; rwa [Int.natCast_add, Int.natCast_add] at this : Calls Try.prog 147 #[.slice none 0 0, .int .i64 ((m1 : Int) + (m2 : Int) + (m3 : Int))] W fun e w' => ∃ v, e = .returned v ∧ w'.ownsRow W.heap.size 2 1 v 0 [] ∧ Below W.heap.size W w')
  have hd1 : decide ((m1 : Int) < 0) = false := by simp
  have hd2 : decide ((m1 : Int) + (m2 : Int) < 0) = false := by simp; omega
  have hd3 : decide ((m1 : Int) + (m2 : Int) + (m3 : Int) < 0) = false := by simp; omega
  go_enter Try.func88, Try.ntmps88
  go_wp2_with fail
  refine wp_loop_rounds 4 ?_
  rw [rounds_succ]
  go_wp2_with fail
  rw [rounds_succ]
  go_wp2_with fail
  rw [rounds_succ]
  go_wp2_with fail
  rw [rounds_succ]
  go_wp2_with fail
  refine (GR.out _).mono ?_
  rintro e w2 ⟨v, rfl, hown0, hB2⟩
  have q1 := kc hB2 hq1
  have G1 := Lib.hid (fun (j : Nat) (u : Value) (h : (ints ys1)[j]? = some u) => kc hB2 (H1.out j u h))
  have q2 := kc hB2 hq2
  have G2 := Lib.hid (fun (j : Nat) (u : Value) (h : (ints ys2)[j]? = some u) => kc hB2 (H2.out j u h))
  have q3 := kc hB2 hq3
  have G3 := Lib.hid (fun (j : Nat) (u : Value) (h : (ints ys3)[j]? = some u) => kc hB2 (H3.out j u h))
  have hsz2 := hB2.size
  go_wp2_with fail
  refine wp_loop_rounds 4 ?_
  rw [rounds_succ]
  go_wp2_with (at_builtin; refine wpList_append_own _ rfl _ _ 42 rfl w.heap.size 2 i0 (.int .i64 0) 1 8 Try.underlying42 hi hz0 hz1 hz2 rfl (by decide) _ _ _ rfl hown0 ad1 m1 c1 (ints ys1) rfl L1.out G1.out O1.out (by unfold maxLen; omega) (by omega) hsz2 ?_)
  intro v1 w3 hown1 hgrow1 _
  have hB3 : Below w.heap.size w w3 := hB2.grown hgrow1 hsz2 (fun j e => (hown0.lt j e).1)
  have hsz3 := hB3.size
  have G2 := Lib.hid (fun (j : Nat) (u : Value) (h : (ints ys2)[j]? = some u) => kc hB3 (H2.out j u h))
  have G3 := Lib.hid (fun (j : Nat) (u : Value) (h : (ints ys3)[j]? = some u) => kc hB3 (H3.out j u h))
  have q1 := kc hB3 hq1
  have q2 := kc hB3 hq2
  have q3 := kc hB3 hq3
  clear hown0 hgrow1
  go_wp2_with fail
  rw [rounds_succ]
  go_wp2_with (at_builtin; refine wpList_append_own _ rfl _ _ 42 rfl w.heap.size 2 i0 (.int .i64 0) 1 8 Try.underlying42 hi hz0 hz1 hz2 rfl (by decide) _ _ _ rfl hown1 ad2 m2 c2 (ints ys2) rfl L2.out G2.out O2.out (by unfold maxLen; omega) (by omega) hsz3 ?_)
  intro v2 w4 hown2 hgrow2 _
  have hB4 : Below w.heap.size w w4 := hB3.grown hgrow2 hsz3 (fun j e => (hown1.lt j e).1)
  have hsz4 := hB4.size
  have G3 := Lib.hid (fun (j : Nat) (u : Value) (h : (ints ys3)[j]? = some u) => kc hB4 (H3.out j u h))
  have q1 := kc hB4 hq1
  have q2 := kc hB4 hq2
  have q3 := kc hB4 hq3
  clear hown1 hgrow2
  go_wp2_with fail
  rw [rounds_succ]
  go_wp2_with (at_builtin; refine wpList_append_own _ rfl _ _ 42 rfl w.heap.size 2 i0 (.int .i64 0) 1 8 Try.underlying42 hi hz0 hz1 hz2 rfl (by decide) _ _ _ rfl hown2 ad3 m3 c3 (ints ys3) rfl L3.out G3.out O3.out (by unfold maxLen; omega) (by omega) hsz4 ?_)
  intro v3 w5 hown3 hgrow3 _
  have hB5 : Below w.heap.size w w5 := hB4.grown hgrow3 hsz4 (fun j e => (hown2.lt j e).1)
  have hsz5 := hB5.size
  have q1 := kc hB5 hq1
  have q2 := kc hB5 hq2
  have q3 := kc hB5 hq3
  clear hown2 hgrow3
  have HO := Lib.hid hown3
  clear hown3
  go_wp2_with fail
  rw [rounds_succ]
  go_wp2
  go_ret
  refine ⟨_, rfl, ?_, hB5⟩
  unfold Owns
  rw [ints_append, ints_append, List.length_append, List.length_append, HM1.out, HM2.out, HM3.out, List.append_assoc]
  exact HO.out
end Go.Proofs.Ytcolaggkeekgoab

/- TU6:
  ProductOf of the program. -/
namespace Go.Proofs.Ytcolaggkeekgoab
open Go.RowKit
set_option linter.unusedVariables false
set_option linter.unusedSimpArgs false

/-- The tuples l lie at a, in another block than bx. -/
def TListAt (W : World) (l : List Nat) (a : Option Addr) (bx : Nat) : Prop := l.length = 0 ∨ ∃ g, a = some ⟨g, 0, none⟩ ∧ g ≠ bx ∧ g < W.heap.size ∧ Hid (∀ j, j < l.length → TupAt W g (j * 4) (ngt l j))
theorem TListAt.below {W W' : World} {l : List Nat} {a : Option Addr} {bx : Nat} (h : TListAt W l a bx) (hb : Below W.heap.size W W') : TListAt W' l a bx := by
  rcases h with h | ⟨g, e, hne, hg, hc⟩
  · exact .inl h
  · exact .inr ⟨g, e, hne, Nat.lt_of_lt_of_le hg hb.size, Lib.hid fun j hj => (hc.out j hj).below hb⟩
theorem TupAt.set {W : World} {g o t bx : Nat} (h : TupAt W g o t) (hne : g ≠ bx) (i : Nat) (v : Value) : TupAt (W.setCell ⟨bx, i, none⟩ v) g o t := by
  have h2 : ¬ bx = g := fun e => hne e.symm
  exact ⟨by simp [go_sem, h.c0, h2], by simp [go_sem, h.c1, h2], by simp [go_sem, h.c2, h2], by simp [go_sem, h.c3, h2]⟩
theorem TListAt.set {W : World} {l : List Nat} {a : Option Addr} {bx : Nat} (h : TListAt W l a bx) (i : Nat) (v : Value) : TListAt (W.setCell ⟨bx, i, none⟩ v) l a bx := by
  rcases h with h | ⟨g, e, hne, hg, hc⟩
  · exact .inl h
  · exact .inr ⟨g, e, hne, by simpa [go_sem] using hg, Lib.hid fun j hj => (hc.out j hj).set hne _ _⟩
theorem TListAt.of {W : World} {b bx : Nat} {s : Value} {l : List Nat} (h : OwnsT W b s l) (hb : bx < b) : ∃ a cap, s = .slice a l.length cap ∧ TListAt W l a bx := by
  obtain ⟨a, cap, rfl, h0 | ⟨g, rfl, hbg, hg, hc⟩⟩ := h.cells
  · exact ⟨a, cap, rfl, .inl h0⟩
  · exact ⟨_, cap, rfl, .inr ⟨g, rfl, by omega, hg, hc⟩⟩
theorem tupAt_new (W : World) (t : Nat) (T : TypeId) : TupAt (W.alloc (.cells #[.int .i64 (bitN t 0 : Int), .int .i64 (bitN t 1 : Int), .int .i64 (bitN t 2 : Int), .int .i64 (bitN t 3 : Int)] T)) W.heap.size 0 t :=
  ⟨by simp [go_sem], by simp [go_sem], by simp [go_sem], by simp [go_sem]⟩
theorem BoxA.set2 {X : Nat} {u v u2 v2 : Int} {W : World} (h : BoxA X u v W) : BoxA X u2 v2 ((W.setCell ⟨X, 0, none⟩ (.int .i64 u2)).setCell ⟨X, 1, none⟩ (.int .i64 v2)) := h.set

theorem slice_tup (m g : Nat) (hm : m ≤ 4) (w : World) : (Instr.sliceAt 105 (.pointer (some ⟨g, 0, none⟩)) none (some (.int .i64 (m : Int))) none).run Try.prog w = .ok (.slice (some ⟨g, 0, none⟩) m 4) w := by
  obtain ⟨i0, hi, hz0, hz1, hz2⟩ := info_parts infoI
  have hl : Try.prog.arrayLen 105 = 4 := by kernel_rfl
  have he : Try.prog.elem 105 = 2 := by kernel_rfl
  have hu : Try.prog.underlying 105 = some (.array (Try.prog.arrayLen 105) (Try.prog.elem 105)) := by rw [hl, he]; exact Try.underlying105
  rw [run_sliceAt_array_h w _ _ hu .i64 (m : Int) (by omega) (by rw [hl]; omega), hl, he, run_sizeOf w hi]
  have e : ((m : Int)).toNat = m := by omega
  have e2 : (⟨g, 0, none⟩ : Addr).add (0 * Try.prog.cellsOf 2) = ⟨g, 0, none⟩ := by simp [Addr.add]
  simp only [Result.andThen_ok, slicedAt, e, e2, Nat.sub_zero]
  split <;> rfl
theorem array_tup (g cap : Nat) (w : World) : (Instr.arrayAt 105 (.slice (some ⟨g, 0, none⟩) 4 cap)).run Try.prog w = .ok (.pointer (some ⟨g, 0, none⟩)) w :=
  run_arrayAt w 105 2 4 _ 4 cap Try.underlying105 (by omega)

/-- The first m digits of a tuple in a box are a slice of it. -/
theorem tup_cells {W : World} {g t : Nat} (h : TupAt W g 0 t) (m : Nat) (hm : m ≤ 4) : ∀ (j : Nat) (u : Value), (ints (natL (bitN t) m))[j]? = some u → W.cell? ((⟨g, 0, none⟩ : Addr).add j) = some u := by
  intro j u hu
  have hj : j < m := by
    have := (List.getElem?_eq_some_iff.1 hu).1
    rwa [ints_length', natL_len, Nat.mul_one] at this
  rw [ints_natL, List.getElem?_map, List.getElem?_range hj] at hu
  simp at hu
  subst hu
  rcases (show j = 0 ∨ j = 1 ∨ j = 2 ∨ j = 3 by omega) with rfl | rfl | rfl | rfl
  · exact h.c0
  · exact h.c1
  · exact h.c2
  · exact h.c3

theorem natL_get' (v : Nat → Nat) (k j : Nat) (h : j < k) : (natL v k)[j]? = some (v j : Int) := by simp [natL, h]
/-- Two beginnings of tuples, joined, fill a tuple. -/
theorem joined_cells {W : World} {base : Nat} {v : Value} {u1 u2 : Nat → Nat} {p m : Nat} (hpm : p + m = 4) (h : Owns W base v (natL u1 p ++ natL u2 m)) : ∃ g cap, v = .slice (some ⟨g, 0, none⟩) 4 cap ∧ base ≤ g ∧ g < W.heap.size ∧ Hid (∀ j, j < 4 → W.cell? ⟨g, j, none⟩ = some (.int .i64 ((if j < p then u1 j else u2 (j - p) : Nat) : Int))) := by
  have hl : (natL u1 p ++ natL u2 m).length = 4 := by rw [List.length_append, natL_len, natL_len, hpm]
  rcases h.shape with ⟨h0, _⟩ | ⟨_, g, cap, rfl, hbg, hg, hc, _⟩
  · rw [h0] at hl; simp at hl
  · refine ⟨g, cap, by rw [hl], hbg, hg, Lib.hid fun j hj => ?_⟩
    rw [hc.out j (by rw [hl]; exact hj)]
    by_cases hjp : j < p
    · rw [if_pos hjp, List.getElem?_append_left (by rw [natL_len]; exact hjp), natL_get' _ _ _ hjp]; rfl
    · rw [if_neg hjp, List.getElem?_append_right (by rw [natL_len]; omega), natL_len, natL_get' _ _ _ (by omega)]; rfl

/-- The memory of the program's ProductOf between two rounds. -/
structure PiM (w0 : World) (B bx p x q y P G : Nat) (l1 : List Nat) (a1 : Option Addr) (W : World) : Prop where
  r : Rel2 B p x q y w0 W
  b : BoxA bx P G W
  s1 : TListAt W l1 a1 bx
theorem PiM.below {w0 : World} {B bx p x q y P G : Nat} {l1 : List Nat} {a1 : Option Addr} {W W' : World} (h : PiM w0 B bx p x q y P G l1 a1 W) (hb : Below W.heap.size W W') : PiM w0 B bx p x q y P G l1 a1 W' := ⟨h.r.below hb, h.b.below hb, h.s1.below hb⟩
theorem PiM.set {w0 : World} {B bx p x q y P G : Nat} {l1 : List Nat} {a1 : Option Addr} {W : World} (h : PiM w0 B bx p x q y P G l1 a1 W) (hb : B + 1 + 1 < bx) (hW : w0.heap.size ≤ B) (G2 : Nat) : PiM w0 B bx p x q y P G2 l1 a1 ((W.setCell ⟨bx, 0, none⟩ (.int .i64 (P : Int))).setCell ⟨bx, 1, none⟩ (.int .i64 (G2 : Int))) :=
  ⟨(h.r.set hb hW _ _).set hb hW _ _, h.b.set, (h.s1.set _ _).set _ _⟩

set_option maxRecDepth 100000 in
set_option maxHeartbeats 8000000 in
theorem implProductOf_yes {p q P Q1 Q2 x y : Nat} (ok1 : ROk (p : Int) x Q1) (ok2 : ROk (q : Int) y Q2) (hP : p + q = P) (hP4 : P ≤ 4) (w : World) :
    Calls Try.prog 21 #[.agg #[.int .i64 p, .int .i64 x], .agg #[.int .i64 q, .int .i64 y]] w fun e w' => e = .returned (.tuple #[.agg #[.int .i64 (P : Int), .int .i64 (prN p (tupsL x Q1) (tupsL y Q2) (tupsL x Q1).length : Int)], .int .i64 0]) ∧ Below w.heap.size w w' := by
  obtain ⟨W1, hW1, hR⟩ := rel2_new p x q y w
  have p0 := hR.p0
  have p1 := hR.p1
  have r0 := hR.r0
  have r1 := hR.r1
  have HI1 := ok1.is
  have HI2 := ok2.is
  go_enter Try.func21, Try.ntmps21
  go_wp2_with fail
  clear hW1
  refine (IsRelation_is HI1 _).mono ?_
  rintro e w2 ⟨rfl, hb2⟩
  replace hR := hR.below hb2
  clear p0 p1 r0 r1 hb2
  have p0 := hR.p0
  have p1 := hR.p1
  have r0 := hR.r0
  have r1 := hR.r1
  go_wp2_with fail
  refine (IsRelation_is HI2 _).mono ?_
  rintro e w3 ⟨rfl, hb3⟩
  replace hR := hR.below hb3
  clear p0 p1 r0 r1 hb3
  have p0 := hR.p0
  have p1 := hR.p1
  have r0 := hR.r0
  have r1 := hR.r1
  have hP4' : decide ((4 : Int) < (P : Int)) = false := by simp; omega
  have hsw : IntKind.i64.wrap ((p : Int) + (q : Int)) = (P : Int) := by rw [wrap64_small (by omega) (by omega)]; omega
  have hlt := hR.lt
  have n0 : w.heap.size < w3.heap.size := by omega
  have n1 : w.heap.size + 1 < w3.heap.size := by omega
  have HR4 := Lib.hid (hR.below (bnew w3 (.cells #[.int .i64 (P : Int), .int .i64 0] 36)))
  have HX4 : Hid (BoxA w3.heap.size P 0 (w3.alloc (.cells #[.int .i64 (P : Int), .int .i64 0] 36))) := Lib.hid BoxA.new
  go_wp2_with fail
  refine (tuplesOf_any ok1.toFOk _).mono ?_
  rintro e w5 ⟨s1, rfl, O1, hb5⟩
  obtain ⟨bx, hbx⟩ : ∃ bx, w3.heap.size = bx := ⟨_, rfl⟩
  obtain ⟨a1, c1, rfl, A1⟩ := TListAt.of (bx := bx) O1 (by rw [← hbx]; simp)
  have hR5 := HR4.out.below hb5
  have hX5 := HX4.out.below hb5
  rw [hbx] at hX5 hlt ⊢
  clear n0 n1 hbx HR4 HX4 hR p0 p1 r0 r1 O1 hb5 hsw hP4'
  have p0 := hR5.p0
  have hp1 : 1 ≤ p := by have := ok1.h1; omega
  have hq1 : 1 ≤ q := by have := ok2.h1; omega
  have hp3 : p ≤ 3 := by omega
  have hQ1 : Q1 = 2 ^ p := by have := ok1.he; simpa using this
  have hQ2 : Q2 = 2 ^ q := by have := ok2.he; simpa using this
  have HL1 : Hid (∀ a ∈ tupsL x Q1, a < 2 ^ p) := Lib.hid fun a ha => by rw [← hQ1]; exact (tupsL_mem.1 ha).1
  have HL2 : Hid (∀ b ∈ tupsL y Q2, b < 2 ^ (4 - p)) := Lib.hid fun b hb => Nat.lt_of_lt_of_le (by rw [← hQ2]; exact (tupsL_mem.1 hb).1) (Nat.pow_le_pow_right (by decide) (by omega))
  have hl1 : (tupsL x Q1).length ≤ 16 := Nat.le_trans (tupsL_len x Q1) ok1.r16
  have hl2 : (tupsL y Q2).length ≤ 16 := Nat.le_trans (tupsL_len y Q2) ok2.r16
  have TO : Hid (∀ W, Calls Try.prog 87 #[.agg #[.int .i64 q, .int .i64 (y : Int)]] W fun e w' => ∃ s, e = .returned s ∧ OwnsT w' W.heap.size s (tupsL y Q2) ∧ Below W.heap.size W w') := Lib.hid fun W => tuplesOf_any ok2.toFOk W
  clear hQ1 hQ2 ok1 ok2 HI1 HI2
  generalize hT1 : tupsL x Q1 = l1 at hl1 HL1 A1 ⊢
  generalize hT2 : tupsL y Q2 = l2 at hl2 HL2 TO ⊢
  have HT1 := Lib.hid hT1
  have HT2 := Lib.hid hT2
  clear hT1 hT2
  obtain ⟨L1, hL1⟩ : ∃ L, l1.length = L := ⟨_, rfl⟩
  obtain ⟨L2, hL2⟩ : ∃ L, l2.length = L := ⟨_, rfl⟩
  rw [hL1] at hl1 ⊢
  rw [hL2] at hl2
  have HE1 := Lib.hid hL1
  have HE2 := Lib.hid hL2
  clear hL1 hL2
  have hdl : decide ((L1 : Int) < 0) = false := by simp
  have hM0 : PiM w w.heap.size bx p x q y P (prN p l1 l2 0) l1 a1 w5 := ⟨hR5, hX5, A1⟩
  clear hR5 hX5 A1 p0
  go_wp2
  go_loopw [37] (fun i' wr => ∃ i : Nat, i ≤ L1 ∧ i' = .int .i64 i ∧ PiM w w.heap.size bx p x q y P (prN p l1 l2 i) l1 a1 wr) (fun i' _ => L1 - (intOf i').toNat)
  case atStart => exact ⟨0, Nat.zero_le _, rfl, hM0⟩
  case round =>
    clear hM0
    obtain ⟨i, hi, rfl, hM⟩ := hrel
    by_cases hlt1 : i < L1
    · have HG0 := Lib.hid (prN_lt hp1 hp3 HL1.out HL2.out i)
      have HSU := Lib.hid (prN_succ (p := p) (l2 := l2) (show i < l1.length by rw [HE1.out]; exact hlt1))
      have HA := Lib.hid (HL1.out _ (ngt_mem (show i < l1.length by rw [HE1.out]; exact hlt1)))
      obtain ⟨g1, rfl, hne1, hg1, hc1⟩ := (show l1.length = 0 ∨ _ from hM.s1).resolve_left (by rw [HE1.out]; omega)
      have T1 := hc1.out i (by rw [HE1.out]; exact hlt1)
      have t0 := T1.c0
      have t1 := T1.c1
      have t2 := T1.c2
      have t3 := T1.c3
      have r0 := hM.r.r0
      have r1 := hM.r.r1
      have lB := hM.r.lt
      have lB0 : w.heap.size < wr.heap.size := by omega
      have lB1 : w.heap.size + 1 < wr.heap.size := by omega
      have lX := cell_lt hM.b.z0
      have HM := Lib.hid hM
      have HM1 := Lib.hid (hM.below (bnew wr (.cells #[.int .i64 (bitN (ngt l1 i) 0 : Int), .int .i64 (bitN (ngt l1 i) 1 : Int), .int .i64 (bitN (ngt l1 i) 2 : Int), .int .i64 (bitN (ngt l1 i) 3 : Int)] 105)))
      have HF1 := Lib.hid (tupAt_new wr (ngt l1 i) 105)
      clear hM hc1 T1
      go_wp2_with fail
      refine (TO.out _).mono ?_
      rintro e w6 ⟨s2, rfl, O2, hb6⟩
      replace HM1 := Lib.hid (HM1.out.below hb6)
      replace HF1 := Lib.hid (HF1.out.below hb6)
      obtain ⟨a2, c2, rfl, A2⟩ := TListAt.of (bx := bx) O2 (by simp; omega)
      have hBW : wr.heap.size < w6.heap.size := by have := hb6.size; simp at this; omega
      rw [HE2.out]
      clear t0 t1 t2 t3 r0 r1 HM O2 hb6
      have hdl2 : decide ((L2 : Int) < 0) = false := by simp
      have hM1 := HM1.out
      have hF1 := HF1.out
      have hneF : wr.heap.size ≠ bx := by omega
      obtain ⟨b1, hb1⟩ : ∃ b1, wr.heap.size = b1 := ⟨_, rfl⟩
      rw [hb1] at hF1 hneF hBW ⊢
      clear HM1 HF1 hb1 lB0 lB1 lX hg1
      go_wp2
      go_loopw [44] (fun k' wr => ∃ k : Nat, k ≤ L2 ∧ k' = .int .i64 k ∧ PiM w w.heap.size bx p x q y P (prI p l2 (prN p l1 l2 i) (ngt l1 i) k) l1 (some ⟨g1, 0, none⟩) wr ∧ TupAt wr b1 0 (ngt l1 i) ∧ TListAt wr l2 a2 bx) (fun k' _ => L2 - (intOf k').toNat)
      case atStart => exact ⟨0, Nat.zero_le _, rfl, hM1, hF1, A2⟩
      case round =>
        clear hM1 hF1 A2
        obtain ⟨k, hk, rfl, hM, hF, A2⟩ := hrel
        by_cases hlt2 : k < L2
        · obtain ⟨g2, rfl, hne2, hg2, hc2⟩ := (show l2.length = 0 ∨ _ from A2).resolve_left (by rw [HE2.out]; omega)
          have T2 := hc2.out k (by rw [HE2.out]; exact hlt2)
          have t0 := T2.c0
          have t1 := T2.c1
          have t2 := T2.c2
          have t3 := T2.c3
          have hB2 := HL2.out _ (ngt_mem (show k < l2.length by rw [HE2.out]; exact hlt2))
          have HGL := Lib.hid (prI_lt (l2 := l2) hp1 hp3 HA.out HL2.out HG0.out k)
          have HSS := Lib.hid (prI_succ (p := p) (show k < l2.length by rw [HE2.out]; exact hlt2) (prN p l1 l2 i) (ngt l1 i))
          have HJ := Lib.hid (jo_sum hp1 hp3 HA.out hB2)
          obtain ⟨m, hm⟩ : ∃ m, p + m = 4 := ⟨4 - p, by omega⟩
          obtain ⟨W8, hW8⟩ : ∃ W8, wr.alloc (.cells #[.int .i64 (bitN (ngt l2 k) 0 : Int), .int .i64 (bitN (ngt l2 k) 1 : Int), .int .i64 (bitN (ngt l2 k) 2 : Int), .int .i64 (bitN (ngt l2 k) 3 : Int)] 105) = W8 := ⟨_, rfl⟩
          have hb8 : Below wr.heap.size wr W8 := by rw [← hW8]; exact bnew _ _
          have HS8 : Hid (TupAt W8 wr.heap.size 0 (ngt l2 k)) := Lib.hid (by rw [← hW8]; exact tupAt_new _ _ _)
          have HM8 := Lib.hid (hM.below hb8)
          have HF8 := Lib.hid (hF.below hb8)
          have HA8 := Lib.hid (TListAt.below A2 hb8)
          have lX := cell_lt hM.b.z0
          have l8 : wr.heap.size < W8.heap.size := cell_lt HS8.out.c0
          go_wp2
          try rw [hW8]
          have hneS : wr.heap.size ≠ bx := by omega
          obtain ⟨b2, hb2⟩ : ∃ b2, wr.heap.size = b2 := ⟨_, rfl⟩
          rw [hb2] at HS8 hneS l8 ⊢
          clear hb2 hW8 hb8 hM hF A2 t0 t1 t2 t3 T2 hc2 hB2 lX
          have p0 := HM8.out.r.p0
          have p1 := HM8.out.r.p1
          have SL1 := fun w => slice_tup p b1 (by omega) w
          have SL2 := fun w => slice_tup m b2 (by omega) w
          have hsub : IntKind.i64.wrap (4 - (p : Int)) = (m : Int) := by rw [wrap64_small (by omega) (by omega)]; omega
          have MK : Hid (∀ W : World, Below W8.heap.size W8 W → ((W.cell? ⟨w.heap.size, 0, none⟩ = some (.int .i64 p) ∧ W.cell? ⟨w.heap.size, 1, none⟩ = some (.int .i64 x)) ∧ Below W8.heap.size W8 W)) := Lib.hid fun W h => ⟨⟨kc h p0, kc h p1⟩, h⟩
          have ST : Hid (∀ W W' : World, Below W.heap.size W W' → ((W.cell? ⟨w.heap.size, 0, none⟩ = some (.int .i64 p) ∧ W.cell? ⟨w.heap.size, 1, none⟩ = some (.int .i64 x)) ∧ Below W8.heap.size W8 W) → ((W'.cell? ⟨w.heap.size, 0, none⟩ = some (.int .i64 p) ∧ W'.cell? ⟨w.heap.size, 1, none⟩ = some (.int .i64 x)) ∧ Below W8.heap.size W8 W')) := Lib.hid fun W W' hb h => MK.out W' (bthen h.2 hb)
          go_region_held3 (fun W => (W.cell? ⟨w.heap.size, 0, none⟩ = some (.int .i64 p) ∧ W.cell? ⟨w.heap.size, 1, none⟩ = some (.int .i64 x)) ∧ Below W8.heap.size W8 W)
            (first
              | with_reducible exact MK.out _ (Below.refl _ _).drew
              | with_reducible exact MK.out _ ((bnew _ _).drew)
              | (with_reducible refine ST.out _ _ (bnew _ _) ?_; with_reducible assumption)
              | with_reducible assumption)
            (first
              | (go_at_call 88; refine (concatI2 _ ⟨b1, 0, none⟩ ⟨b2, 0, none⟩ 4 4 (natL (bitN (ngt l1 i)) p) (natL (bitN (ngt l2 k)) m) (by rw [natL_len, natL_len]; omega) _ (by rw [natL_len]; simp [go_sem]) (by rw [natL_len]; simp [go_sem]) (Lib.hid (tup_cells (HF8.out.below (by first | exact (bnew _ _).drew | exact (bnew _ _))) p (by omega))) (Lib.hid (tup_cells (HS8.out.below (by first | exact (bnew _ _).drew | exact (bnew _ _))) m (by omega)))).mono ?_; rintro e w9 ⟨v, rfl, OV, hb9⟩; have T9 := ST.out _ _ hb9 (by with_reducible assumption)))
          have lX8 := cell_lt HM8.out.b.z0
          obtain ⟨gv, cv, rfl, hbv, hgv, HC⟩ := joined_cells hm OV
          have hM9 := HM8.out.below T9.2
          have HF9 := Lib.hid (HF8.out.below T9.2)
          have HA9 := Lib.hid (HA8.out.below T9.2)
          have v0 := HC.out 0 (by omega)
          have v1 := HC.out 1 (by omega)
          have v2 := HC.out 2 (by omega)
          have v3 := HC.out 3 (by omega)
          have z0 := hM9.b.z0
          have z1 := hM9.b.z1
          have y0 := hM9.b.y0
          have y1 := hM9.b.y1
          have HM9 := Lib.hid hM9
          have WT0 := fun W => withTuple_any (n := (P : Int)) (y := prI p l2 (prN p l1 l2 i) (ngt l1 i) k) (Nat.lt_trans HGL.out (by decide)) (fun j => if j < p then bitN (ngt l1 i) j else bitN (ngt l2 k) (j - p)) (fun j _ => by split <;> exact bitN_le _ _) W
          rw [HJ.out, ← HSS.out] at WT0
          unfold arr at WT0
          dsimp only at WT0
          generalize (if (0 : Nat) < p then bitN (ngt l1 i) 0 else bitN (ngt l2 k) (0 - p)) = d0 at v0 WT0
          generalize (if (1 : Nat) < p then bitN (ngt l1 i) 1 else bitN (ngt l2 k) (1 - p)) = d1 at v1 WT0
          generalize (if (2 : Nat) < p then bitN (ngt l1 i) 2 else bitN (ngt l2 k) (2 - p)) = d2 at v2 WT0
          generalize (if (3 : Nat) < p then bitN (ngt l1 i) 3 else bitN (ngt l2 k) (3 - p)) = d3 at v3 WT0
          have WT := Lib.hid WT0
          have AR := fun w => array_tup gv cv w
          clear WT0 HC hM9 OV hb9 T9 MK ST SL1 SL2 hsub p0 p1 HS8 HM8 HF8 HA8 hbv HSS HJ HGL
          generalize hG2 : prI p l2 (prN p l1 l2 i) (ngt l1 i) (k + 1) = G2 at WT
          generalize hG1 : prI p l2 (prN p l1 l2 i) (ngt l1 i) k = G at WT z1 HM9
          have HG2 := Lib.hid hG2
          clear hG2 hG1
          go_wp2
          go_region_with (go_at_call 89; refine (WT.out _).mono ?_; rintro e w10 ⟨rfl, hb10⟩; have z0' := kc hb10 z0; have z1' := kc hb10 z1; have y0' := kf hb10 z0 y0; have y1' := kf hb10 z1 y1)
          all_goals
            have HM10 := Lib.hid ((HM9.out.below (bthen (Below.refl _ _).drew hb10)).set hlt (Nat.le_refl _) G2)
            have HF10 := Lib.hid (((HF9.out.below (bthen (Below.refl _ _).drew hb10)).set hneF 0 (.int .i64 (P : Int))).set hneF 1 (.int .i64 (G2 : Int)))
            have HA10 := Lib.hid (((HA9.out.below (bthen (Below.refl _ _).drew hb10)).set 0 (.int .i64 (P : Int))).set 1 (.int .i64 (G2 : Int)))
            clear z0 z1 y0 y1 z0' z1' y0' y1' v0 v1 v2 v3
            go_wp2
            go_roundw
            case rel => exact ⟨k + 1, by omega, by go_num, by rw [HG2.out]; exact HM10.out, HF10.out, HA10.out⟩
            case measure => simp [intOf]; omega
        · obtain rfl : k = L2 := by omega
          have HM : Hid (PiM w w.heap.size bx p x q y P (prN p l1 l2 (i + 1)) l1 (some ⟨g1, 0, none⟩) wr) := Lib.hid (by rw [← HSU.out, HE2.out]; exact hM)
          clear hM
          go_wp2
          go_roundw
          case rel => exact ⟨i + 1, by omega, by go_num, HM.out⟩
          case measure => simp [intOf]; omega
    · obtain rfl : i = L1 := by omega
      have z0 := hM.b.z0
      have z1 := hM.b.z1
      have c0 := hM.r.c0
      have c1 := hM.r.c1
      have f0 := hM.r.f0
      have f1 := hM.r.f1
      have hold := hM.r.old
      generalize hGE : prN p l1 l2 i = G at z1 ⊢
      have HGE := Lib.hid hGE
      clear hM hGE
      go_wp2
      exact bodyPost_ret (v := .tuple #[.agg #[.int .i64 (P : Int), .int .i64 (G : Int)], .int .i64 0]) (by simp [results, Try.results21, go_sem, c0, c1]) rfl ⟨by rw [HT1.out, HT2.out, HE1.out, HGE.out], (hold.setCell (p := ⟨w.heap.size + 1 + 1, 0, none⟩) (by simp; omega) _).setCell (p := ⟨w.heap.size + 1 + 1, 1, none⟩) (by simp; omega) _⟩
end Go.Proofs.Ytcolaggkeekgoab

/- TU7:
  ProductOf in both packages. -/
namespace Go.Proofs.Ytcolaggkeekgoab
open Go.RowKit
set_option linter.unusedVariables false

theorem bothProductOf (n0 b0 n1 b1 : Int) (_ : (Lit.int .i64 n0).wf = true) (_ : (Lit.int .i64 b0).wf = true) (_ : (Lit.int .i64 n1).wf = true) (_ : (Lit.int .i64 b1).wf = true) : ∃ rn rb rc : Int,
    (∀ w, Calls Try.prog 19 #[.agg #[.int .i64 n0, .int .i64 b0], .agg #[.int .i64 n1, .int .i64 b1]] w fun e w' => e = .returned (.tuple #[.agg #[.int .i64 rn, .int .i64 rb], .int .i64 rc]) ∧ Below w.heap.size w w') ∧
    (∀ w, Calls Try.prog 21 #[.agg #[.int .i64 n0, .int .i64 b0], .agg #[.int .i64 n1, .int .i64 b1]] w fun e w' => e = .returned (.tuple #[.agg #[.int .i64 rn, .int .i64 rb], .int .i64 rc]) ∧ Below w.heap.size w w') := by
  cases h0 : isR n0 b0
  · exact ⟨_, _, _, specProductOf_a h0, implProductOf_a h0⟩
  · cases h1 : isR n1 b1
    · exact ⟨_, _, _, specProductOf_b h0 h1, implProductOf_b h0 h1⟩
    · by_cases hn : 4 < n0 + n1
      · exact ⟨_, _, _, specProductOf_c h0 h1 hn, implProductOf_c h0 h1 hn⟩
      · obtain ⟨x, Q1, rfl, ok1⟩ := rok h0
        obtain ⟨y, Q2, rfl, ok2⟩ := rok h1
        obtain ⟨p, rfl⟩ := Int.eq_ofNat_of_zero_le ok1.h0
        obtain ⟨q, rfl⟩ := Int.eq_ofNat_of_zero_le ok2.h0
        exact ⟨_, _, _, specProductOf_yes ok1 ok2 rfl (by omega), implProductOf_yes ok1 ok2 rfl (by omega)⟩
end Go.Proofs.Ytcolaggkeekgoab

/- TU8:
  IdentifyPlaces in both packages where there is an error. -/
namespace Go.Proofs.Ytcolaggkeekgoab
open Go.RowKit
set_option linter.unusedVariables false
set_option linter.unusedSimpArgs false

/-- The boxes of a relation and of an answer that is zero yet. -/
structure Rel1 (B : Nat) (n0 b0 : Int) (W0 W : World) : Prop where
  p0 : W.cell? ⟨B, 0, none⟩ = some (.int .i64 n0)
  p1 : W.cell? ⟨B, 1, none⟩ = some (.int .i64 b0)
  c0 : W.cell? ⟨B + 1, 0, none⟩ = some (.int .i64 0)
  c1 : W.cell? ⟨B + 1, 1, none⟩ = some (.int .i64 0)
  f0 : W.frozen? ⟨B + 1, 0, none⟩ = false
  f1 : W.frozen? ⟨B + 1, 1, none⟩ = false
  old : Below W0.heap.size W0 W
  lt : B + 1 < W.heap.size
theorem Rel1.below {B : Nat} {n0 b0 : Int} {W0 W W' : World} (h : Rel1 B n0 b0 W0 W) (hb : Below W.heap.size W W') : Rel1 B n0 b0 W0 W' :=
  ⟨kc hb h.p0, kc hb h.p1, kc hb h.c0, kc hb h.c1, kf hb h.c0 h.f0, kf hb h.c1 h.f1, bthen h.old hb, Nat.lt_of_lt_of_le h.lt hb.size⟩
theorem rel1_new (n0 b0 : Int) (w : World) : ∃ W1, (w.alloc (.cells #[.int .i64 n0, .int .i64 b0] 36)).alloc (.cells #[.int .i64 0, .int .i64 0] 36) = W1 ∧ Rel1 w.heap.size n0 b0 w W1 :=
  ⟨_, rfl, by simp [go_sem], by simp [go_sem], by simp [go_sem], by simp [go_sem], by simp [go_sem], by simp [go_sem], balloc (bnew _ _) _, by simp <;> omega⟩
theorem Rel1.set {B bx : Nat} {n0 b0 : Int} {W0 W : World} (h : Rel1 B n0 b0 W0 W) (hb : B + 1 < bx) (hW : W0.heap.size ≤ B) (i : Nat) (v : Value) : Rel1 B n0 b0 W0 (W.setCell ⟨bx, i, none⟩ v) := by
  obtain ⟨p0, p1, c0, c1, f0, f1, old, lt⟩ := h
  have e0 : ¬ bx = B := by omega
  have e1 : ¬ bx = B + 1 := by omega
  exact ⟨by simp [go_sem, p0, e0], by simp [go_sem, p1, e0], by simp [go_sem, c0, e1], by simp [go_sem, c1, e1], by simp [go_sem, f0], by simp [go_sem, f1], old.setCell (p := ⟨bx, i, none⟩) (by show W0.heap.size ≤ bx; omega) _, by simpa [go_sem] using lt⟩

set_option maxRecDepth 100000 in
set_option maxHeartbeats 2000000 in
theorem implIdentifyPlaces_a {n0 b0 : Int} {i j : Int} (h0 : isR n0 b0 = false) (w : World) :
    Calls Try.prog 28 #[.agg #[.int .i64 n0, .int .i64 b0], .int .i64 i, .int .i64 j] w fun e w' => e = .returned (.tuple #[.agg #[.int .i64 0, .int .i64 0], .int .i64 1]) ∧ Below w.heap.size w w' := by
  obtain ⟨W1, hW1, hR⟩ := rel1_new n0 b0 w
  have p0 := hR.p0
  have p1 := hR.p1
  go_enter Try.func28, Try.ntmps28
  go_wp2_with fail
  clear hW1
  refine (IsRelation_is h0 _).mono ?_
  rintro e w2 ⟨rfl, hb2⟩
  replace hR := hR.below hb2
  clear p0 p1 hb2
  have p0 := hR.p0
  have p1 := hR.p1
  have c0 := hR.c0
  have c1 := hR.c1
  have f0 := hR.f0
  have f1 := hR.f1
  have hold := hR.old
  clear hR
  go_wp2
  exact bodyPost_ret (v := .tuple #[.agg #[.int .i64 0, .int .i64 0], .int .i64 1]) (by simp [results, Try.results28, go_sem, c0, c1]) rfl ⟨rfl, (hold.setCell (p := ⟨w.heap.size + 1, 0, none⟩) (by simp) _).setCell (p := ⟨w.heap.size + 1, 1, none⟩) (by simp) _⟩

set_option maxRecDepth 100000 in
set_option maxHeartbeats 2000000 in
theorem implIdentifyPlaces_b {n0 b0 : Int} {i j : Int} (h0 : isR n0 b0 = true) (h1 : i < 0) (w : World) :
    Calls Try.prog 28 #[.agg #[.int .i64 n0, .int .i64 b0], .int .i64 i, .int .i64 j] w fun e w' => e = .returned (.tuple #[.agg #[.int .i64 0, .int .i64 0], .int .i64 2]) ∧ Below w.heap.size w w' := by
  have hd1 : decide (i < 0) = true := by simpa using h1
  obtain ⟨W1, hW1, hR⟩ := rel1_new n0 b0 w
  have p0 := hR.p0
  have p1 := hR.p1
  go_enter Try.func28, Try.ntmps28
  go_wp2_with fail
  clear hW1
  refine (IsRelation_is h0 _).mono ?_
  rintro e w2 ⟨rfl, hb2⟩
  replace hR := hR.below hb2
  clear p0 p1 hb2
  have p0 := hR.p0
  have p1 := hR.p1
  have c0 := hR.c0
  have c1 := hR.c1
  have f0 := hR.f0
  have f1 := hR.f1
  have hold := hR.old
  clear hR
  go_wp2
  exact bodyPost_ret (v := .tuple #[.agg #[.int .i64 0, .int .i64 0], .int .i64 2]) (by simp [results, Try.results28, go_sem, c0, c1]) rfl ⟨rfl, (hold.setCell (p := ⟨w.heap.size + 1, 0, none⟩) (by simp) _).setCell (p := ⟨w.heap.size + 1, 1, none⟩) (by simp) _⟩

set_option maxRecDepth 100000 in
set_option maxHeartbeats 2000000 in
theorem implIdentifyPlaces_c {n0 b0 : Int} {i j : Int} (h0 : isR n0 b0 = true) (h1 : 0 ≤ i) (h2 : j ≤ i) (w : World) :
    Calls Try.prog 28 #[.agg #[.int .i64 n0, .int .i64 b0], .int .i64 i, .int .i64 j] w fun e w' => e = .returned (.tuple #[.agg #[.int .i64 0, .int .i64 0], .int .i64 2]) ∧ Below w.heap.size w w' := by
  have hd1 : decide (i < 0) = false := by simp; omega
  have hd2 : decide (j ≤ i) = true := by simpa using h2
  obtain ⟨W1, hW1, hR⟩ := rel1_new n0 b0 w
  have p0 := hR.p0
  have p1 := hR.p1
  go_enter Try.func28, Try.ntmps28
  go_wp2_with fail
  clear hW1
  refine (IsRelation_is h0 _).mono ?_
  rintro e w2 ⟨rfl, hb2⟩
  replace hR := hR.below hb2
  clear p0 p1 hb2
  have p0 := hR.p0
  have p1 := hR.p1
  have c0 := hR.c0
  have c1 := hR.c1
  have f0 := hR.f0
  have f1 := hR.f1
  have hold := hR.old
  clear hR
  go_wp2
  exact bodyPost_ret (v := .tuple #[.agg #[.int .i64 0, .int .i64 0], .int .i64 2]) (by simp [results, Try.results28, go_sem, c0, c1]) rfl ⟨rfl, (hold.setCell (p := ⟨w.heap.size + 1, 0, none⟩) (by simp) _).setCell (p := ⟨w.heap.size + 1, 1, none⟩) (by simp) _⟩

set_option maxRecDepth 100000 in
set_option maxHeartbeats 2000000 in
theorem implIdentifyPlaces_d {n0 b0 : Int} {i j : Int} (h0 : isR n0 b0 = true) (h1 : 0 ≤ i) (h2 : i < j) (h3 : n0 ≤ j) (w : World) :
    Calls Try.prog 28 #[.agg #[.int .i64 n0, .int .i64 b0], .int .i64 i, .int .i64 j] w fun e w' => e = .returned (.tuple #[.agg #[.int .i64 0, .int .i64 0], .int .i64 2]) ∧ Below w.heap.size w w' := by
  have hd1 : decide (i < 0) = false := by simp; omega
  have hd2 : decide (j ≤ i) = false := by simp; omega
  have hd3 : decide (n0 ≤ j) = true := by simpa using h3
  obtain ⟨W1, hW1, hR⟩ := rel1_new n0 b0 w
  have p0 := hR.p0
  have p1 := hR.p1
  go_enter Try.func28, Try.ntmps28
  go_wp2_with fail
  clear hW1
  refine (IsRelation_is h0 _).mono ?_
  rintro e w2 ⟨rfl, hb2⟩
  replace hR := hR.below hb2
  clear p0 p1 hb2
  have p0 := hR.p0
  have p1 := hR.p1
  have c0 := hR.c0
  have c1 := hR.c1
  have f0 := hR.f0
  have f1 := hR.f1
  have hold := hR.old
  clear hR
  go_wp2
  exact bodyPost_ret (v := .tuple #[.agg #[.int .i64 0, .int .i64 0], .int .i64 2]) (by simp [results, Try.results28, go_sem, c0, c1]) rfl ⟨rfl, (hold.setCell (p := ⟨w.heap.size + 1, 0, none⟩) (by simp) _).setCell (p := ⟨w.heap.size + 1, 1, none⟩) (by simp) _⟩

set_option maxRecDepth 100000 in
set_option maxHeartbeats 2000000 in
theorem specIdentifyPlaces_a {n0 b0 : Int} {i j : Int} (h0 : isR n0 b0 = false) (w : World) :
    Calls Try.prog 27 #[.agg #[.int .i64 n0, .int .i64 b0], .int .i64 i, .int .i64 j] w fun e w' => e = .returned (.tuple #[.agg #[.int .i64 0, .int .i64 0], .int .i64 1]) ∧ Below w.heap.size w w' := by
  obtain ⟨W1, hW1, hR⟩ := rel1_new n0 b0 w
  have p0 := hR.p0
  have p1 := hR.p1
  go_enter Try.func27, Try.ntmps27
  go_wp2_with fail
  clear hW1
  refine (l06Is_is h0 _).mono ?_
  rintro e w2 ⟨rfl, hb2⟩
  replace hR := hR.below hb2
  clear p0 p1 hb2
  have p0 := hR.p0
  have p1 := hR.p1
  have c0 := hR.c0
  have c1 := hR.c1
  have f0 := hR.f0
  have f1 := hR.f1
  have hold := hR.old
  clear hR
  go_wp2
  exact bodyPost_ret (v := .tuple #[.agg #[.int .i64 0, .int .i64 0], .int .i64 1]) (by simp [results, Try.results27, go_sem, c0, c1]) rfl ⟨rfl, (hold.setCell (p := ⟨w.heap.size + 1, 0, none⟩) (by simp) _).setCell (p := ⟨w.heap.size + 1, 1, none⟩) (by simp) _⟩

set_option maxRecDepth 100000 in
set_option maxHeartbeats 2000000 in
theorem specIdentifyPlaces_b {n0 b0 : Int} {i j : Int} (h0 : isR n0 b0 = true) (h1 : inB j 0 (n0 - 1) = false) (w : World) :
    Calls Try.prog 27 #[.agg #[.int .i64 n0, .int .i64 b0], .int .i64 i, .int .i64 j] w fun e w' => e = .returned (.tuple #[.agg #[.int .i64 0, .int .i64 0], .int .i64 2]) ∧ Below w.heap.size w w' := by
  have hb0 : 1 ≤ n0 ∧ n0 ≤ 4 := ⟨(isR_iff.1 h0).1, (isR_iff.1 h0).2.1⟩
  have hs1 : IntKind.i64.wrap (n0 - 1) = n0 - 1 := wrap64_small (by omega) (by omega)
  obtain ⟨W1, hW1, hR⟩ := rel1_new n0 b0 w
  have p0 := hR.p0
  have p1 := hR.p1
  go_enter Try.func27, Try.ntmps27
  go_wp2_with fail
  clear hW1
  refine (l06Is_is h0 _).mono ?_
  rintro e w2 ⟨rfl, hb2⟩
  replace hR := hR.below hb2
  clear p0 p1 hb2
  have p0 := hR.p0
  have p1 := hR.p1
  have c0 := hR.c0
  have c1 := hR.c1
  have f0 := hR.f0
  have f1 := hR.f1
  have hold := hR.old
  clear hR
  go_wp2_with (go_at_call 79; refine (l01In_is h1 _).mono ?_; rintro e w' ⟨rfl, rfl⟩)
  exact bodyPost_ret (v := .tuple #[.agg #[.int .i64 0, .int .i64 0], .int .i64 2]) (by simp [results, Try.results27, go_sem, c0, c1]) rfl ⟨rfl, (hold.setCell (p := ⟨w.heap.size + 1, 0, none⟩) (by simp) _).setCell (p := ⟨w.heap.size + 1, 1, none⟩) (by simp) _⟩

set_option maxRecDepth 100000 in
set_option maxHeartbeats 2000000 in
theorem specIdentifyPlaces_c {n0 b0 : Int} {i j : Int} (h0 : isR n0 b0 = true) (h1 : inB j 0 (n0 - 1) = true) (h2 : inB i 0 (j - 1) = false) (w : World) :
    Calls Try.prog 27 #[.agg #[.int .i64 n0, .int .i64 b0], .int .i64 i, .int .i64 j] w fun e w' => e = .returned (.tuple #[.agg #[.int .i64 0, .int .i64 0], .int .i64 2]) ∧ Below w.heap.size w w' := by
  have hb0 : 1 ≤ n0 ∧ n0 ≤ 4 := ⟨(isR_iff.1 h0).1, (isR_iff.1 h0).2.1⟩
  have hs1 : IntKind.i64.wrap (n0 - 1) = n0 - 1 := wrap64_small (by omega) (by omega)
  have hj : 0 ≤ j ∧ j ≤ n0 - 1 := by simpa [inB] using h1
  have hs2 : IntKind.i64.wrap (j - 1) = j - 1 := by simp [IntKind.wrap, IntKind.bits, IntKind.signed]; omega
  obtain ⟨W1, hW1, hR⟩ := rel1_new n0 b0 w
  have p0 := hR.p0
  have p1 := hR.p1
  go_enter Try.func27, Try.ntmps27
  go_wp2_with fail
  clear hW1
  refine (l06Is_is h0 _).mono ?_
  rintro e w2 ⟨rfl, hb2⟩
  replace hR := hR.below hb2
  clear p0 p1 hb2
  have p0 := hR.p0
  have p1 := hR.p1
  have c0 := hR.c0
  have c1 := hR.c1
  have f0 := hR.f0
  have f1 := hR.f1
  have hold := hR.old
  clear hR
  go_wp2_with (first | (go_at_call 79; with_reducible refine (l01In_is h2 _).mono ?_; rintro e w' ⟨rfl, rfl⟩) | (go_at_call 79; with_reducible refine (l01In_is h1 _).mono ?_; rintro e w' ⟨rfl, rfl⟩))
  exact bodyPost_ret (v := .tuple #[.agg #[.int .i64 0, .int .i64 0], .int .i64 2]) (by simp [results, Try.results27, go_sem, c0, c1]) rfl ⟨rfl, (hold.setCell (p := ⟨w.heap.size + 1, 0, none⟩) (by simp) _).setCell (p := ⟨w.heap.size + 1, 1, none⟩) (by simp) _⟩

end Go.Proofs.Ytcolaggkeekgoab

/- TU9:
  IdentifyPlaces of the model. -/
namespace Go.Proofs.Ytcolaggkeekgoab
open Go.RowKit
set_option linter.unusedVariables false
set_option linter.unusedSimpArgs false

/-- The memory of the loop of IdentifyPlaces in the model. -/
structure IdM (w0 : World) (B bx : Nat) (n0 b0 : Int) (P G : Nat) (l : List Nat) (a : Option Addr) (W : World) : Prop where
  r : Rel1 B n0 b0 w0 W
  b : BoxA bx P G W
  s : ListAt W l a bx
theorem IdM.below {w0 : World} {B bx : Nat} {n0 b0 : Int} {P G : Nat} {l : List Nat} {a : Option Addr} {W W' : World} (h : IdM w0 B bx n0 b0 P G l a W) (hb : Below W.heap.size W W') : IdM w0 B bx n0 b0 P G l a W' := ⟨h.r.below hb, h.b.below hb, h.s.below hb⟩
theorem IdM.set1 {w0 : World} {B bx : Nat} {n0 b0 : Int} {P G : Nat} {l : List Nat} {a : Option Addr} {W : World} (h : IdM w0 B bx n0 b0 P G l a W) (hb : B + 1 < bx) (hW : w0.heap.size ≤ B) (G2 : Nat) : IdM w0 B bx n0 b0 P G2 l a (W.setCell ⟨bx, 1, none⟩ (.int .i64 (G2 : Int))) :=
  ⟨h.r.set hb hW _ _, h.b.set1, h.s.set _ _⟩

theorem id_step {G t j : Nat} (hG : G < 2 ^ 62) (ht : t < 16) (hj : j < 4) :
    bits .or .i64 (G : Int) (IntKind.i64.wrap (2 ^ min (IntKind.u64.wrap (bits .or .i64 (bits .and .i64 (t : Int) (IntKind.i64.wrap (IntKind.i64.wrap (2 ^ j) - 1))) (IntKind.i64.wrap ((t : Int) / 2 ^ (j + 1) * 2 ^ j)))).toNat 64)) = ((G ||| 2 ^ idN j t : Nat) : Int) := by
  have key : ∀ j : Nat, j < 4 → ∀ t : Nat, t < 16 → (IntKind.u64.wrap (bits .or .i64 (bits .and .i64 (t : Int) (IntKind.i64.wrap (IntKind.i64.wrap (2 ^ j) - 1))) (IntKind.i64.wrap ((t : Int) / 2 ^ (j + 1) * 2 ^ j)))).toNat = idN j t := by decide +kernel
  have hm := id_lt hj ht
  rw [key j hj t ht]
  generalize idN j t = m at hm
  rw [Nat.min_eq_left (by omega)]
  have h16 : 2 ^ m < 2 ^ 62 := Nat.pow_lt_pow_right (by decide) (by omega)
  have e4 : (2 : Int) ^ m = ((2 ^ m : Nat) : Int) := by simp
  rw [e4]
  generalize 2 ^ m = q at h16
  rw [wrap64_small (by omega) (by omega)]
  exact bits_or_nat _ _ hG h16

set_option maxRecDepth 100000 in
set_option maxHeartbeats 8000000 in
theorem specIdentifyPlaces_yes {n P Q x i j : Nat} (ok : ROk (n : Int) x Q) (hP : P + 1 = n) (hij : i < j) (hjn : j < n) (w : World) :
    Calls Try.prog 27 #[.agg #[.int .i64 n, .int .i64 x], .int .i64 (i : Int), .int .i64 (j : Int)] w fun e w' => e = .returned (.tuple #[.agg #[.int .i64 (P : Int), .int .i64 (idL i j (tupsL x Q) (tupsL x Q).length : Int)], .int .i64 0]) ∧ Below w.heap.size w w' := by
  have hn4 : n ≤ 4 := by have := ok.h4; omega
  obtain ⟨W1, hW1, hR⟩ := rel1_new n x w
  have p0 := hR.p0
  have p1 := hR.p1
  have HI := ok.is
  have hs1 : IntKind.i64.wrap ((n : Int) - 1) = (P : Int) := by rw [wrap64_small (by omega) (by omega)]; omega
  have hs2 : IntKind.i64.wrap ((j : Int) - 1) = (j : Int) - 1 := wrap64_small (by omega) (by omega)
  have IN1 : inB (j : Int) 0 (P : Int) = true := inB_true (by omega) (by omega)
  have IN2 : inB (i : Int) 0 ((j : Int) - 1) = true := inB_true (by omega) (by omega)
  go_enter Try.func27, Try.ntmps27
  go_wp2_with fail
  clear hW1
  refine (l06Is_is HI _).mono ?_
  rintro e w2 ⟨rfl, hb2⟩
  replace hR := hR.below hb2
  clear p0 p1 hb2
  have p0 := hR.p0
  have p1 := hR.p1
  go_wp2_with fail
  refine (l01In_is IN1 _).mono ?_
  rintro e w' ⟨rfl, rfl⟩
  go_wp2_with fail
  refine (l01In_is IN2 _).mono ?_
  rintro e w' ⟨rfl, rfl⟩
  go_wp2_with fail
  have C1 : Hid (∀ W, Calls Try.prog 86 #[.agg #[.int .i64 n, .int .i64 (x : Int)]] W fun e w' => ∃ s, e = .returned s ∧ Owns w' W.heap.size s (nI (tupsL x Q)) ∧ Below W.heap.size W w') := Lib.hid (fun W => l06List_any ok.toFOk W)
  have MK : Hid (∀ W : World, Below w2.heap.size w2 W → ((W.cell? ⟨w.heap.size, 0, none⟩ = some (.int .i64 n) ∧ W.cell? ⟨w.heap.size, 1, none⟩ = some (.int .i64 x)) ∧ (Below w2.heap.size w2 W))) := Lib.hid fun W h => ⟨⟨kc h p0, kc h p1⟩, h⟩
  have ST : Hid (∀ W W' : World, Below W.heap.size W W' → ((W.cell? ⟨w.heap.size, 0, none⟩ = some (.int .i64 n) ∧ W.cell? ⟨w.heap.size, 1, none⟩ = some (.int .i64 x)) ∧ (Below w2.heap.size w2 W)) → ((W'.cell? ⟨w.heap.size, 0, none⟩ = some (.int .i64 n) ∧ W'.cell? ⟨w.heap.size, 1, none⟩ = some (.int .i64 x)) ∧ (Below w2.heap.size w2 W'))) := Lib.hid fun W W' hb h => MK.out W' (bthen h.2 hb)
  have SS : Hid (∀ (W : World) (X : Nat) (u v : Value), w2.heap.size ≤ X → ((W.cell? ⟨w.heap.size, 0, none⟩ = some (.int .i64 n) ∧ W.cell? ⟨w.heap.size, 1, none⟩ = some (.int .i64 x)) ∧ (Below w2.heap.size w2 W)) → ((((W.setCell ⟨X, 0, none⟩ u).setCell ⟨X, 1, none⟩ v).cell? ⟨w.heap.size, 0, none⟩ = some (.int .i64 n) ∧ ((W.setCell ⟨X, 0, none⟩ u).setCell ⟨X, 1, none⟩ v).cell? ⟨w.heap.size, 1, none⟩ = some (.int .i64 x)) ∧ (Below w2.heap.size w2 ((W.setCell ⟨X, 0, none⟩ u).setCell ⟨X, 1, none⟩ v)))) := Lib.hid fun W X u v hX h => MK.out _ ((h.2.setCell (p := ⟨X, 0, none⟩) hX _).setCell (p := ⟨X, 1, none⟩) hX _)
  have HR := Lib.hid hR
  clear hR
  refine Code.wp_mono (Q := fun e a w' => e = .normal ∧ ∃ bx a1 c1, a = { tmps := #[.agg #[.int .i64 (n : Int), .int .i64 (x : Int)], .int .i64 (i : Int), .int .i64 (j : Int), .pointer (some ⟨w.heap.size, 0, none⟩), undef, undef, .pointer (some ⟨w.heap.size + 1, 0, none⟩), .int .i64 0, .pointer (some ⟨bx, 0, none⟩), .slice a1 (tupsL x Q).length c1, undef, undef, undef, .bool false, .agg #[.int .i64 (n : Int), .int .i64 (x : Int)], .bool true, .bool false, undef, .bool false, .int .i64 (j : Int), .pointer (some ⟨w.heap.size, 0, none⟩), .int .i64 (n : Int), .int .i64 (P : Int), .bool true, .bool false, .bool false, .int .i64 (i : Int), .int .i64 (j : Int), .int .i64 ((j : Int) - 1), .bool true, .bool false, .bool false, undef, .pointer (some ⟨w.heap.size, 0, none⟩), .int .i64 (n : Int), .int .i64 (P : Int), .agg #[.int .i64 (P : Int), .int .i64 0], .agg #[.int .i64 (n : Int), .int .i64 (x : Int)], .slice a1 (tupsL x Q).length c1, undef, undef, undef, undef, undef, undef, undef, undef, undef, undef, undef, undef, undef, undef, undef, undef, undef, undef, undef, undef, undef, undef, undef, undef, undef, undef, undef, undef, undef, undef, undef, undef, undef, undef, undef, undef, undef, undef, undef, undef, undef, undef, undef, undef], defers := [] } ∧ Rel1 w.heap.size n x w w' ∧ BoxA bx P 0 w' ∧ w.heap.size + 1 < bx ∧ ListAt w' (tupsL x Q) a1 bx) ?rest ?reg
  case reg =>
    go_region_held3 (fun W => (W.cell? ⟨w.heap.size, 0, none⟩ = some (.int .i64 n) ∧ W.cell? ⟨w.heap.size, 1, none⟩ = some (.int .i64 x)) ∧ (Below w2.heap.size w2 W))
      (first
        | with_reducible exact MK.out _ (Below.refl _ _).drew
        | with_reducible exact MK.out _ ((bnew _ _).drew)
        | (with_reducible refine ST.out _ _ hb5 ?_; with_reducible assumption)
        | (with_reducible refine ST.out _ _ (bnew _ _) ?_; with_reducible assumption)
        | (with_reducible refine SS.out _ _ _ _ ?_ T6; omega))
      (first
        | (go_at_call 86; with_reducible refine (C1.out _).mono ?_; rintro e w5 ⟨s1, rfl, O1, hb5⟩; have G1 := O1.lt; have E1 := O1.ge; have T6 := ST.out _ _ hb5 (by with_reducible assumption); have L6 := T6.2.size; (first | (with_reducible have Z5 := BoxA.newB hb5) | (with_reducible have Z5 := BoxA.newBd hb5) | skip); (try (have lz := cell_lt Z5.z0; have z0 := Z5.z0; have z1 := Z5.z1; have y0 := Z5.y0; have y1 := Z5.y1))))
    all_goals
      have LT := HR.out.lt
    · obtain ⟨a1, c1, rfl, A1⟩ := ListAt.of (bx := w5.heap.size) O1 (fun k hk => by have := G1 k hk; omega)
      exact ⟨rfl, _, a1, c1, rfl, (HR.out.below T6.2).below (bnew _ _), BoxA.new, by omega, A1.below (bnew _ _)⟩
    · obtain ⟨a1, c1, rfl, A1⟩ := ListAt.of (bx := w2.heap.size) O1 (fun k hk => by have := E1 k hk; simp [go_sem] at this; omega)
      exact ⟨rfl, _, a1, c1, rfl, HR.out.below ((T6.2.setCell (p := ⟨_, 0, none⟩) (Nat.le_refl _) _).setCell (p := ⟨_, 1, none⟩) (Nat.le_refl _) _), Z5.set, by omega, (A1.set _ _).set _ _⟩
  case rest =>
  rintro e a w4 ⟨rfl, bx, a1, c1, rfl, hR4, hX, hbx, A1⟩
  have hM0 : IdM w w.heap.size bx n x P (idL i j (tupsL x Q) 0) (tupsL x Q) a1 w4 := ⟨hR4, hX, A1⟩
  have hQ : Q = 2 ^ n := by have := ok.he; simpa using this
  have h16 : 2 ^ n ≤ 2 ^ 4 := Nat.pow_le_pow_right (by decide) hn4
  have HL : Hid (∀ t ∈ tupsL x Q, t < 16) := Lib.hid fun t ht => by have := (tupsL_mem.1 ht).1; rw [hQ] at this; omega
  have hl1 : (tupsL x Q).length ≤ 16 := Nat.le_trans (tupsL_len x Q) ok.r16
  dsimp only
  clear hQ h16 ok HI hR4 hX A1 C1 MK ST SS HR p0 p1 IN1 IN2
  generalize hT : tupsL x Q = l at hl1 HL hM0 ⊢
  have HT := Lib.hid hT
  obtain ⟨L, hL⟩ : ∃ L, l.length = L := ⟨_, rfl⟩
  rw [hL] at hl1 ⊢
  have HE := Lib.hid hL
  clear hL hT
  go_wp2
  go_loopw [10] (fun k' wr => ∃ k : Nat, k ≤ L ∧ k' = .int .i64 k ∧ IdM w w.heap.size bx n x P (idL i j l k) l a1 wr) (fun k' _ => L - (intOf k').toNat)
  case atStart => exact ⟨0, Nat.zero_le _, rfl, hM0⟩
  case round =>
    clear hM0
    obtain ⟨k, hk, rfl, hM⟩ := hrel
    by_cases hlt : k < L
    · obtain ⟨g, rfl, hne, hg, hc⟩ := (show l.length = 0 ∨ _ from hM.s).resolve_left (by rw [HE.out]; omega)
      have t1 := hc.out k (by rw [HE.out]; exact hlt)
      have ht := HL.out _ (ngt_mem (show k < l.length by rw [HE.out]; exact hlt))
      have HY := Lib.hid (idL_yes (i := i) (j := j) (show k < l.length by rw [HE.out]; exact hlt))
      have HN := Lib.hid (idL_no (i := i) (j := j) (show k < l.length by rw [HE.out]; exact hlt))
      have hG := idL_lt (i := i) (show j < 4 by omega) HL.out k
      have HIL := Lib.hid (id_lt (show j < 4 by omega) ht)
      have z0 := hM.b.z0
      have z1 := hM.b.z1
      have y1 := hM.b.y1
      have HM := Lib.hid hM
      clear hM hc
      generalize ngt l k = t at t1 ht HY HN HIL
      have D1 := digit_eq t i (by omega)
      have D2 := digit_eq t j (by omega)
      by_cases hb : bitN t i = bitN t j
      · have hbb : ((bitN t i : Int) != (bitN t j : Int)) = false := by simp [hb]
        have HST := Lib.hid (HY.out hb)
        have HP := Lib.hid (id_step (G := idL i j l k) (t := t) (j := j) (Nat.lt_trans hG (by decide)) ht (by omega))
        rw [← HST.out] at HP
        have HMS := Lib.hid (HM.out.set1 hbx (Nat.le_refl _) (idL i j l (k + 1)))
        clear hb HY HN HST
        generalize hG2 : idL i j l (k + 1) = G2 at HP HMS ⊢
        have HG2 := Lib.hid hG2
        clear hG2
        generalize idL i j l k = G at z1 hG HP HM
        go_wp2
        have HS2 := HP.out
        simp only [← w64] at HS2
        try rw [HS2]
        clear HS2
        go_roundw
        case rel => exact ⟨k + 1, by omega, by go_num, by rw [HG2.out]; exact HMS.out⟩
        case measure => simp [intOf]; omega
      · have hbb : ((bitN t i : Int) != (bitN t j : Int)) = true := by simp; omega
        have HST := Lib.hid (HN.out hb)
        clear hb HY HN
        go_wp2
        go_roundw
        case rel => exact ⟨k + 1, by omega, by go_num, by rw [HST.out]; exact HM.out⟩
        case measure => simp [intOf]; omega
    · obtain rfl : k = L := by omega
      have z0 := hM.b.z0
      have z1 := hM.b.z1
      have c0 := hM.r.c0
      have c1 := hM.r.c1
      have f0 := hM.r.f0
      have f1 := hM.r.f1
      have hold := hM.r.old
      generalize hGE : idL i j l k = G at z1 ⊢
      have HGE := Lib.hid hGE
      clear hM hGE
      go_wp2
      exact bodyPost_ret (v := .tuple #[.agg #[.int .i64 (P : Int), .int .i64 (G : Int)], .int .i64 0]) (by simp [results, Try.results27, go_sem, c0, c1]) rfl ⟨by rw [HT.out, HE.out, HGE.out], (hold.setCell (p := ⟨w.heap.size + 1, 0, none⟩) (by simp) _).setCell (p := ⟨w.heap.size + 1, 1, none⟩) (by simp) _⟩
end Go.Proofs.Ytcolaggkeekgoab

/- TU10:
  IdentifyPlaces of the program. -/
namespace Go.Proofs.Ytcolaggkeekgoab
open Go.RowKit
set_option linter.unusedVariables false
set_option linter.unusedSimpArgs false

theorem slice_from (m r g : Nat) (hm : m + r = 4) : ∃ ad : Addr, (∀ w, (Instr.sliceAt 105 (.pointer (some ⟨g, 0, none⟩)) (some (.int .i64 (m : Int))) none none).run Try.prog w = .ok (.slice (some ad) r r) w) ∧
    (∀ (W : World) (t : Nat), TupAt W g 0 t → ∀ (j : Nat) (u : Value), (ints (natL (fun k => bitN t (k + m)) r))[j]? = some u → W.cell? (ad.add j) = some u) := by
  obtain ⟨i0, hi, hz0, hz1, hz2⟩ := info_parts infoI
  have hl : Try.prog.arrayLen 105 = 4 := by kernel_rfl
  have he : Try.prog.elem 105 = 2 := by kernel_rfl
  have hu : Try.prog.underlying 105 = some (.array (Try.prog.arrayLen 105) (Try.prog.elem 105)) := by rw [hl, he]; exact Try.underlying105
  have hc : Try.prog.cellsOf 2 = 1 := by kernel_rfl
  have hr : 4 - m = r := by omega
  refine ⟨if 4 = m then ⟨g, 0, none⟩ else ⟨g, m, none⟩, fun w => ?_, fun W t h j u hj => ?_⟩
  · rw [run_sliceAt_array_l w _ _ hu .i64 (m : Int) (by omega) (by rw [hl]; omega), hl, he, run_sizeOf w hi]
    have e : ((m : Int)).toNat = m := by omega
    have e2 : (⟨g, 0, none⟩ : Addr).add (m * Try.prog.cellsOf 2) = ⟨g, m, none⟩ := by rw [hc]; simp [Addr.add]; try (intro h; omega)
    simp only [Result.andThen_ok, slicedAt, e, e2, hr]
  · have hjr : j < r := by
      have := (List.getElem?_eq_some_iff.1 hj).1
      rwa [ints_length', natL_len, Nat.mul_one] at this
    rw [ints_natL, List.getElem?_map, List.getElem?_range hjr] at hj
    simp at hj
    subst hj
    rw [if_neg (by omega)]
    have e : (⟨g, m, none⟩ : Addr).add j = ⟨g, m + j, none⟩ := by simp [Addr.add]; try (intro h; omega)
    rw [e, Nat.add_comm j m]
    rcases (show m + j = 0 ∨ m + j = 1 ∨ m + j = 2 ∨ m + j = 3 by omega) with h1 | h1 | h1 | h1 <;> rw [h1]
    · exact h.c0
    · exact h.c1
    · exact h.c2
    · exact h.c3
/-- A tuple without a place, and a zero behind it. -/
theorem joined3_cells {W : World} {base : Nat} {v : Value} {t j m r : Nat} (hj : j + 1 = m) (hm : m + r = 4) (h : Owns W base v (natL (bitN t) j ++ natL (fun k => bitN t (k + m)) r ++ [0])) : ∃ g cap, v = .slice (some ⟨g, 0, none⟩) 4 cap ∧ base ≤ g ∧ g < W.heap.size ∧ Hid (∀ k, k < 4 → W.cell? ⟨g, k, none⟩ = some (.int .i64 ((if k < j then bitN t k else if k < 3 then bitN t (k + 1) else 0 : Nat) : Int))) := by
  have hl : (natL (bitN t) j ++ natL (fun k => bitN t (k + m)) r ++ [0]).length = 4 := by rw [List.length_append, List.length_append, natL_len, natL_len]; simp; omega
  rcases h.shape with ⟨h0, _⟩ | ⟨_, g, cap, rfl, hbg, hg, hc, _⟩
  · rw [h0] at hl; simp at hl
  · refine ⟨g, cap, by rw [hl], hbg, hg, Lib.hid fun k hk => ?_⟩
    rw [hc.out k (by rw [hl]; exact hk)]
    by_cases h1 : k < j
    · rw [if_pos h1, List.append_assoc, List.getElem?_append_left (by rw [natL_len]; exact h1), natL_get' _ _ _ h1]; rfl
    · rw [if_neg h1, List.append_assoc, List.getElem?_append_right (by rw [natL_len]; omega), natL_len]
      by_cases h2 : k < 3
      · rw [if_pos h2, List.getElem?_append_left (by rw [natL_len]; omega), natL_get' _ _ _ (by omega), show k - j + m = k + 1 by omega]; rfl
      · rw [if_neg h2, List.getElem?_append_right (by rw [natL_len]; omega), natL_len, show k - j - r = 0 by omega]; rfl

structure IdiM (w0 : World) (B bx : Nat) (n0 b0 : Int) (P G : Nat) (l : List Nat) (a : Option Addr) (W : World) : Prop where
  r : Rel1 B n0 b0 w0 W
  b : BoxA bx P G W
  s : TListAt W l a bx
theorem IdiM.below {w0 : World} {B bx : Nat} {n0 b0 : Int} {P G : Nat} {l : List Nat} {a : Option Addr} {W W' : World} (h : IdiM w0 B bx n0 b0 P G l a W) (hb : Below W.heap.size W W') : IdiM w0 B bx n0 b0 P G l a W' := ⟨h.r.below hb, h.b.below hb, h.s.below hb⟩
theorem IdiM.set {w0 : World} {B bx : Nat} {n0 b0 : Int} {P G : Nat} {l : List Nat} {a : Option Addr} {W : World} (h : IdiM w0 B bx n0 b0 P G l a W) (hb : B + 1 < bx) (hW : w0.heap.size ≤ B) (G2 : Nat) : IdiM w0 B bx n0 b0 P G2 l a ((W.setCell ⟨bx, 0, none⟩ (.int .i64 (P : Int))).setCell ⟨bx, 1, none⟩ (.int .i64 (G2 : Int))) :=
  ⟨(h.r.set hb hW _ _).set hb hW _ _, h.b.set, (h.s.set _ _).set _ _⟩

set_option maxRecDepth 100000 in
set_option maxHeartbeats 8000000 in
theorem implIdentifyPlaces_yes {n P Q x i j : Nat} (ok : ROk (n : Int) x Q) (hP : P + 1 = n) (hij : i < j) (hjn : j < n) (w : World) :
    Calls Try.prog 28 #[.agg #[.int .i64 n, .int .i64 x], .int .i64 (i : Int), .int .i64 (j : Int)] w fun e w' => e = .returned (.tuple #[.agg #[.int .i64 (P : Int), .int .i64 (idL i j (tupsL x Q) (tupsL x Q).length : Int)], .int .i64 0]) ∧ Below w.heap.size w w' := by
  have hn4 : n ≤ 4 := by have := ok.h4; omega
  obtain ⟨W1, hW1, hR⟩ := rel1_new n x w
  have p0 := hR.p0
  have p1 := hR.p1
  have HI := ok.is
  have hs1 : IntKind.i64.wrap ((n : Int) - 1) = (P : Int) := by rw [wrap64_small (by omega) (by omega)]; omega
  have hd2 : decide ((j : Int) ≤ (i : Int)) = false := by simp; omega
  have hd3 : decide ((n : Int) ≤ (j : Int)) = false := by simp; omega
  go_enter Try.func28, Try.ntmps28
  go_wp2_with fail
  clear hW1
  refine (IsRelation_is HI _).mono ?_
  rintro e w2 ⟨rfl, hb2⟩
  replace hR := hR.below hb2
  clear p0 p1 hb2
  have p0 := hR.p0
  have p1 := hR.p1
  have hlt := hR.lt
  have n0 : w.heap.size < w2.heap.size := by omega
  have HR4 := Lib.hid (hR.below (bnew w2 (.cells #[.int .i64 (P : Int), .int .i64 0] 36)))
  have HX4 : Hid (BoxA w2.heap.size P 0 (w2.alloc (.cells #[.int .i64 (P : Int), .int .i64 0] 36))) := Lib.hid BoxA.new
  go_wp2_with fail
  refine (tuplesOf_any ok.toFOk _).mono ?_
  rintro e w5 ⟨s1, rfl, O1, hb5⟩
  obtain ⟨bx, hbx⟩ : ∃ bx, w2.heap.size = bx := ⟨_, rfl⟩
  obtain ⟨a1, c1, rfl, A1⟩ := TListAt.of (bx := bx) O1 (by rw [← hbx]; simp)
  have hR5 := HR4.out.below hb5
  have hX5 := HX4.out.below hb5
  rw [hbx] at hX5 hlt ⊢
  clear n0 hbx HR4 HX4 hR p0 p1 O1 hb5 hs1
  have hQ : Q = 2 ^ n := by have := ok.he; simpa using this
  have h16 : 2 ^ n ≤ 2 ^ 4 := Nat.pow_le_pow_right (by decide) hn4
  have HL : Hid (∀ t ∈ tupsL x Q, t < 16) := Lib.hid fun t ht => by have := (tupsL_mem.1 ht).1; rw [hQ] at this; omega
  have hl1 : (tupsL x Q).length ≤ 16 := Nat.le_trans (tupsL_len x Q) ok.r16
  clear hQ h16 ok HI
  generalize hT : tupsL x Q = l at hl1 HL A1 ⊢
  have HT := Lib.hid hT
  obtain ⟨L, hL⟩ : ∃ L, l.length = L := ⟨_, rfl⟩
  rw [hL] at hl1 ⊢
  have HE := Lib.hid hL
  clear hL hT
  have hdl : decide ((L : Int) < 0) = false := by simp
  have hM0 : IdiM w w.heap.size bx n x P (idL i j l 0) l a1 w5 := ⟨hR5, hX5, A1⟩
  clear hR5 hX5 A1
  go_wp2
  go_loopw [37] (fun k' wr => ∃ k : Nat, k ≤ L ∧ k' = .int .i64 k ∧ IdiM w w.heap.size bx n x P (idL i j l k) l a1 wr) (fun k' _ => L - (intOf k').toNat)
  case atStart => exact ⟨0, Nat.zero_le _, rfl, hM0⟩
  case round =>
    clear hM0
    obtain ⟨k, hk, rfl, hM⟩ := hrel
    by_cases hlt1 : k < L
    · obtain ⟨g, rfl, hne, hg, hc⟩ := (show l.length = 0 ∨ _ from hM.s).resolve_left (by rw [HE.out]; omega)
      have T1 := hc.out k (by rw [HE.out]; exact hlt1)
      have t0 := T1.c0
      have t1 := T1.c1
      have t2 := T1.c2
      have t3 := T1.c3
      have ht := HL.out _ (ngt_mem (show k < l.length by rw [HE.out]; exact hlt1))
      have HY := Lib.hid (idL_yes (i := i) (j := j) (show k < l.length by rw [HE.out]; exact hlt1))
      have HN := Lib.hid (idL_no (i := i) (j := j) (show k < l.length by rw [HE.out]; exact hlt1))
      have HG := Lib.hid (idL_lt (i := i) (show j < 4 by omega) HL.out k)
      have HJ := Lib.hid (id_sum (show j < 4 by omega) ht)
      have lX := cell_lt hM.b.z0
      obtain ⟨W8, hW8⟩ : ∃ W8, wr.alloc (.cells #[.int .i64 (bitN (ngt l k) 0 : Int), .int .i64 (bitN (ngt l k) 1 : Int), .int .i64 (bitN (ngt l k) 2 : Int), .int .i64 (bitN (ngt l k) 3 : Int)] 105) = W8 := ⟨_, rfl⟩
      have hb8 : Below wr.heap.size wr W8 := by rw [← hW8]; exact bnew _ _
      have HS8 : Hid (TupAt W8 wr.heap.size 0 (ngt l k)) := Lib.hid (by rw [← hW8]; exact tupAt_new _ _ _)
      have HM8 := Lib.hid (hM.below hb8)
      have e0 : ∀ q, q < 4 → W8.cell? ⟨wr.heap.size, q, none⟩ = some (.int .i64 (bitN (ngt l k) q : Int)) := fun q hq => by
        rcases (show q = 0 ∨ q = 1 ∨ q = 2 ∨ q = 3 by omega) with rfl | rfl | rfl | rfl
        · exact HS8.out.c0
        · exact HS8.out.c1
        · exact HS8.out.c2
        · exact HS8.out.c3
      have ei := e0 i (by omega)
      have ej := e0 j (by omega)
      clear hM hc T1 e0
      generalize ngt l k = t at t0 t1 t2 t3 ht HY HN HJ hW8 HS8 ei ej
      have hi4 : (i : Int) < 4 := by omega
      have hj4 : (j : Int) < 4 := by omega
      by_cases hb : bitN t i = bitN t j
      · have hbb : ((bitN t i : Int) == (bitN t j : Int)) = true := by simp [hb]
        have HST := Lib.hid (HY.out hb)
        clear hb HY HN
        go_wp2
        try rw [hW8]
        obtain ⟨b2, hb2⟩ : ∃ b2, wr.heap.size = b2 := ⟨_, rfl⟩
        rw [hb2] at HS8 ei ej lX ⊢
        clear hb2 hW8 hb8
        go_quiet (fail)
        go_wp2
        have hbn := below_drewN (Below.refl W8.heap.size W8) nq
        obtain ⟨W9, hW9⟩ : ∃ W9, W8.drewN nq = W9 := ⟨_, rfl⟩
        rw [hW9] at hbn ⊢
        replace HM8 := Lib.hid (HM8.out.below hbn)
        replace HS8 := Lib.hid (HS8.out.below hbn)
        clear hbn hW9 ei ej
        have lX8 := cell_lt HM8.out.b.z0
        obtain ⟨m, hm⟩ : ∃ m, j + 1 = m := ⟨_, rfl⟩
        obtain ⟨r, hr⟩ : ∃ r, m + r = 4 := ⟨4 - m, by omega⟩
        have SL1 := fun w => slice_tup j b2 (by omega) w
        obtain ⟨ad, SL2, HAD0⟩ := slice_from m r b2 hr
        have HAD := Lib.hid HAD0
        have hadd : IntKind.i64.wrap ((j : Int) + 1) = (m : Int) := by rw [wrap64_small (by omega) (by omega)]; omega
        have p0 := HM8.out.r.p0
        have p1 := HM8.out.r.p1
        have HMM := Lib.hid hm
        have H36 := Lib.hid hr
        have MK : Hid (∀ W : World, Below W9.heap.size W9 W → ((W.cell? ⟨w.heap.size, 0, none⟩ = some (.int .i64 n) ∧ W.cell? ⟨w.heap.size, 1, none⟩ = some (.int .i64 x)) ∧ Below W9.heap.size W9 W)) := Lib.hid fun W h => ⟨⟨kc h p0, kc h p1⟩, h⟩
        have ST : Hid (∀ W W' : World, Below W.heap.size W W' → ((W.cell? ⟨w.heap.size, 0, none⟩ = some (.int .i64 n) ∧ W.cell? ⟨w.heap.size, 1, none⟩ = some (.int .i64 x)) ∧ Below W9.heap.size W9 W) → ((W'.cell? ⟨w.heap.size, 0, none⟩ = some (.int .i64 n) ∧ W'.cell? ⟨w.heap.size, 1, none⟩ = some (.int .i64 x)) ∧ Below W9.heap.size W9 W')) := Lib.hid fun W W' hb h => MK.out W' (bthen h.2 hb)
        have hL8 : (natL (bitN t) j).length + (natL (fun k => bitN t (k + m)) r).length + ([0] : List Int).length ≤ 8 := by rw [natL_len, natL_len]; simp; omega
        have HT8 := Lib.hid (fun W hb => tup_cells (HS8.out.below (W' := W) hb) j (by omega))
        clear HAD0 hm hr
        go_region_held3 (fun W => ((W.cell? ⟨w.heap.size, 0, none⟩ = some (.int .i64 n) ∧ W.cell? ⟨w.heap.size, 1, none⟩ = some (.int .i64 x)) ∧ Below W9.heap.size W9 W))
          (first
            | with_reducible exact MK.out _ (Below.refl _ _).drew
            | with_reducible exact MK.out _ ((bnew _ _).drew)
            | with_reducible exact MK.out _ ((balloc (bnew _ _) _).drew)
            | (with_reducible refine ST.out _ _ (bnew _ _) ?_; with_reducible assumption)
            | with_reducible assumption)
          (first
            | (go_at_call 88; refine (concatI3 _ ⟨b2, 0, none⟩ ad ⟨W9.heap.size, 0, none⟩ 4 r 1 (natL (bitN t) j) (natL (fun k => bitN t (k + m)) r) [0] hL8 _ (by rw [natL_len]; simp [go_sem]) (by rw [natL_len]; simp [go_sem]) (by simp [go_sem]) (Lib.hid (HT8.out _ (by first | exact (balloc (bnew _ _) _).drew | exact balloc (bnew _ _) _ | exact (bnew _ _).drew | exact (bnew _ _)))) (Lib.hid (HAD.out _ t (HS8.out.below (by first | exact (balloc (bnew _ _) _).drew | exact balloc (bnew _ _) _ | exact (bnew _ _).drew | exact (bnew _ _))))) (Lib.hid (by intro q u hq; match q, hq with | 0, hq => (simp [ints] at hq; subst hq; simp [go_sem, Addr.add])))).mono ?_; rintro e w9 ⟨v, rfl, OV, hb9⟩; have T9 := ST.out _ _ hb9 (by with_reducible assumption)))
        obtain ⟨gv, cv, rfl, hbv, hgv, HC⟩ := joined3_cells HMM.out H36.out OV
        have hM9 := HM8.out.below T9.2
        have v0 := HC.out 0 (by omega)
        have v1 := HC.out 1 (by omega)
        have v2 := HC.out 2 (by omega)
        have v3 := HC.out 3 (by omega)
        have z0 := hM9.b.z0
        have z1 := hM9.b.z1
        have y0 := hM9.b.y0
        have y1 := hM9.b.y1
        have HM9 := Lib.hid hM9
        have WT0 := fun W => withTuple_any (n := (P : Int)) (y := idL i j l k) (Nat.lt_trans HG.out (by decide)) (fun q => if q < j then bitN t q else if q < 3 then bitN t (q + 1) else 0) (fun q _ => by split <;> first | exact bitN_le _ _ | (split <;> first | exact bitN_le _ _ | omega)) W
        rw [HJ.out, ← HST.out] at WT0
        unfold arr at WT0
        dsimp only at WT0
        generalize (if (0 : Nat) < j then bitN t 0 else if (0 : Nat) < 3 then bitN t (0 + 1) else 0) = d0 at v0 WT0
        generalize (if (1 : Nat) < j then bitN t 1 else if (1 : Nat) < 3 then bitN t (1 + 1) else 0) = d1 at v1 WT0
        generalize (if (2 : Nat) < j then bitN t 2 else if (2 : Nat) < 3 then bitN t (2 + 1) else 0) = d2 at v2 WT0
        generalize (if (3 : Nat) < j then bitN t 3 else if (3 : Nat) < 3 then bitN t (3 + 1) else 0) = d3 at v3 WT0
        have WT := Lib.hid WT0
        have AR := fun w => array_tup gv cv w
        clear WT0 HC hM9 OV hb9 T9 MK ST SL1 SL2 hadd p0 p1 HS8 HM8 hbv HJ HG HAD HT8 hL8
        generalize hG2 : idL i j l (k + 1) = G2 at WT
        generalize hG1 : idL i j l k = G at WT z1 HM9
        have HG2 := Lib.hid hG2
        clear hG2 hG1
        go_wp2
        go_region_with (go_at_call 89; refine (WT.out _).mono ?_; rintro e w10 ⟨rfl, hb10⟩; have z0' := kc hb10 z0; have z1' := kc hb10 z1; have y0' := kf hb10 z0 y0; have y1' := kf hb10 z1 y1)
        all_goals
          have HM10 := Lib.hid ((HM9.out.below (bthen (Below.refl _ _).drew hb10)).set hlt (Nat.le_refl _) G2)
          clear z0 z1 y0 y1 z0' z1' y0' y1' v0 v1 v2 v3
          go_wp2
          go_roundw
          case rel => exact ⟨k + 1, by omega, by go_num, by rw [HG2.out]; exact HM10.out⟩
          case measure => simp [intOf]; omega
      · have hbb : ((bitN t i : Int) == (bitN t j : Int)) = false := by simp; omega
        have HST := Lib.hid (HN.out hb)
        clear hb HY HN
        go_wp2
        try rw [hW8]
        obtain ⟨b2, hb2⟩ : ∃ b2, wr.heap.size = b2 := ⟨_, rfl⟩
        rw [hb2] at HS8 ei ej lX ⊢
        clear hb2 hW8 hb8
        go_quiet (fail)
        go_wp2
        go_roundw
        case rel => exact ⟨k + 1, by omega, by go_num, by rw [HST.out]; exact HM8.out.below (below_drewN (Below.refl _ _) _)⟩
        case measure => simp [intOf]; omega
    · obtain rfl : k = L := by omega
      have z0 := hM.b.z0
      have z1 := hM.b.z1
      have c0 := hM.r.c0
      have c1 := hM.r.c1
      have f0 := hM.r.f0
      have f1 := hM.r.f1
      have hold := hM.r.old
      generalize hGE : idL i j l k = G at z1 ⊢
      have HGE := Lib.hid hGE
      clear hM hGE
      go_wp2
      exact bodyPost_ret (v := .tuple #[.agg #[.int .i64 (P : Int), .int .i64 (G : Int)], .int .i64 0]) (by simp [results, Try.results28, go_sem, c0, c1]) rfl ⟨by rw [HT.out, HE.out, HGE.out], (hold.setCell (p := ⟨w.heap.size + 1, 0, none⟩) (by simp) _).setCell (p := ⟨w.heap.size + 1, 1, none⟩) (by simp) _⟩
end Go.Proofs.Ytcolaggkeekgoab

/- TU11:
  IdentifyPlaces in both packages. -/
namespace Go.Proofs.Ytcolaggkeekgoab
open Go.RowKit
set_option linter.unusedVariables false

theorem bothIdentifyPlaces (n0 b0 i j : Int) : ∃ rn rb rc : Int,
    (∀ w, Calls Try.prog 27 #[.agg #[.int .i64 n0, .int .i64 b0], .int .i64 i, .int .i64 j] w fun e w' => e = .returned (.tuple #[.agg #[.int .i64 rn, .int .i64 rb], .int .i64 rc]) ∧ Below w.heap.size w w') ∧
    (∀ w, Calls Try.prog 28 #[.agg #[.int .i64 n0, .int .i64 b0], .int .i64 i, .int .i64 j] w fun e w' => e = .returned (.tuple #[.agg #[.int .i64 rn, .int .i64 rb], .int .i64 rc]) ∧ Below w.heap.size w w') := by
  cases h0 : isR n0 b0
  · exact ⟨_, _, _, specIdentifyPlaces_a h0, implIdentifyPlaces_a h0⟩
  · by_cases hi : i < 0
    · cases h1 : inB j 0 (n0 - 1)
      · exact ⟨_, _, _, specIdentifyPlaces_b h0 h1, implIdentifyPlaces_b h0 hi⟩
      · exact ⟨_, _, _, specIdentifyPlaces_c h0 h1 (inB_false (by omega)), implIdentifyPlaces_b h0 hi⟩
    · by_cases hj : j ≤ i
      · cases h1 : inB j 0 (n0 - 1)
        · exact ⟨_, _, _, specIdentifyPlaces_b h0 h1, implIdentifyPlaces_c h0 (by omega) hj⟩
        · exact ⟨_, _, _, specIdentifyPlaces_c h0 h1 (inB_false (by omega)), implIdentifyPlaces_c h0 (by omega) hj⟩
      · by_cases hn : n0 ≤ j
        · exact ⟨_, _, _, specIdentifyPlaces_b h0 (inB_false (by omega)), implIdentifyPlaces_d h0 (by omega) (by omega) hn⟩
        · obtain ⟨x, Q, rfl, ok⟩ := rok h0
          obtain ⟨n, rfl⟩ := Int.eq_ofNat_of_zero_le ok.h0
          obtain ⟨i', rfl⟩ := Int.eq_ofNat_of_zero_le (show 0 ≤ i by omega)
          obtain ⟨j', rfl⟩ := Int.eq_ofNat_of_zero_le (show 0 ≤ j by omega)
          exact ⟨_, _, _, specIdentifyPlaces_yes (P := n - 1) ok (by omega) (by omega) (by omega), implIdentifyPlaces_yes (P := n - 1) ok (by omega) (by omega) (by omega)⟩
end Go.Proofs.Ytcolaggkeekgoab

/- L5:
  ValueAt in both packages. -/
namespace Go.Proofs.Ytcolaggkeekgoab
open Go.RowKit
set_option linter.unusedVariables false

theorem Owns.slice {W : World} {base : Nat} {s : Value} {xs : List Int} (h : Owns W base s xs) : ∃ a cap, s = .slice a xs.length cap := by
  rcases h.shape with ⟨rfl, a, cap, rfl⟩ | ⟨_, g, cap, rfl, _⟩
  · exact ⟨_, _, rfl⟩
  · exact ⟨_, _, rfl⟩

/-- The boxes of ValueAt. -/
theorem valueBoxes (n b : Int) (a : Option Addr) (len cap : Nat) (w : World) : ∃ W1, (w.alloc (.cells #[.int .i64 n, .int .i64 b] 61)).alloc (.cells #[.slice a len cap] 42) = W1 ∧ W1.cell? ⟨w.heap.size, 0, none⟩ = some (.int .i64 n) ∧ W1.cell? ⟨w.heap.size, 1, none⟩ = some (.int .i64 b) ∧
    W1.cell? ⟨w.heap.size + 1, 0, none⟩ = some (.slice a len cap) ∧ Below w.heap.size w W1 :=
  ⟨_, rfl, by simp [go_sem], by simp [go_sem], by simp [go_sem], balloc (bnew _ _) _⟩

/-- The box of the model's ValueAt. -/
theorem valueBox (n b : Int) (w : World) : ∃ W1, w.alloc (.cells #[.int .i64 n, .int .i64 b] 61) = W1 ∧ W1.cell? ⟨w.heap.size, 0, none⟩ = some (.int .i64 n) ∧ W1.cell? ⟨w.heap.size, 1, none⟩ = some (.int .i64 b) ∧ Below w.heap.size w W1 :=
  ⟨_, rfl, by simp [go_sem], by simp [go_sem], bnew _ _⟩

end Go.Proofs.Ytcolaggkeekgoab

/- I1:
  The two closures of PermuteFunc. -/
namespace Go.Proofs.Ytcolaggkeekgoab
open Go.RowKit
set_option linter.unusedVariables false

/-- What a permutation of the variables says, number by number: within 0..3. -/
def permI (xs : List Int) (i : Nat) : Nat := (xs[i]?.getD 0).toNat

end Go.Proofs.Ytcolaggkeekgoab

/- I2:
  isPermutation. -/
namespace Go.Proofs.Ytcolaggkeekgoab
open Go.RowKit
set_option linter.unusedVariables false

/-- The first j numbers of a list are variables of n, each once. -/
def PermTo (n : Int) (xs : List Int) (j : Nat) : Prop := ∀ i, i < j → (0 ≤ xs[i]?.getD 0 ∧ xs[i]?.getD 0 ≤ n - 1) ∧ ∀ k, k < i → xs[k]?.getD 0 ≠ xs[i]?.getD 0

theorem PermTo.step {n : Int} {xs : List Int} {j : Nat} (h : PermTo n xs j) (h1 : 0 ≤ xs[j]?.getD 0 ∧ xs[j]?.getD 0 ≤ n - 1) (h2 : ¬ ∃ i, i < j ∧ xs[i]?.getD 0 = xs[j]?.getD 0) : PermTo n xs (j + 1) := by
  intro i hi
  by_cases e : i = j
  · subst e
    exact ⟨h1, fun k hk he => h2 ⟨k, hk, he⟩⟩
  · exact h i (by omega)

theorem PermTo.not_in {n : Int} {xs : List Int} {j l : Nat} (hj : j < l) (h1 : ¬ (0 ≤ xs[j]?.getD 0 ∧ xs[j]?.getD 0 ≤ n - 1)) : ¬ PermTo n xs l := fun h => h1 (h j hj).1
theorem PermTo.not_twice {n : Int} {xs : List Int} {j l : Nat} (hj : j < l) (h1 : ∃ i, i < j ∧ xs[i]?.getD 0 = xs[j]?.getD 0) : ¬ PermTo n xs l := fun h => by
  obtain ⟨i, hi, e⟩ := h1
  exact (h j hj).2 i hi e

/-- What a row of marks says: which numbers stand among the first j. -/
def seenB (xs : List Int) (j k : Nat) : Bool := (List.range j).any fun i => xs[i]?.getD 0 == (k : Int)
theorem seenB_true {xs : List Int} {j k : Nat} : seenB xs j k = true ↔ ∃ i, i < j ∧ xs[i]?.getD 0 = (k : Int) := by simp [seenB]
theorem seenB_zero (xs : List Int) (k : Nat) : seenB xs 0 k = false := by simp [seenB]
theorem seenB_same {xs : List Int} {j k : Nat} (h : xs[j]?.getD 0 = (k : Int)) : seenB xs (j + 1) k = true := seenB_true.2 ⟨j, by omega, h⟩
theorem seenB_other {xs : List Int} {j k : Nat} (h : xs[j]?.getD 0 ≠ (k : Int)) : seenB xs (j + 1) k = seenB xs j k := by
  apply Bool.eq_iff_iff.2
  rw [seenB_true, seenB_true]
  constructor
  · rintro ⟨i, hi, e⟩
    by_cases hij : i = j
    · exact absurd (hij ▸ e) h
    · exact ⟨i, by omega, e⟩
  · rintro ⟨i, hi, e⟩
    exact ⟨i, by omega, e⟩

end Go.Proofs.Ytcolaggkeekgoab

/- J1:
  l01Order of the model. -/
namespace Go.Proofs.Ytcolaggkeekgoab
open Go.RowKit

theorem infoB : (Try.prog.info? 4).map (fun i => (i.zero, i.size, i.bytes)) = some (some (.bool false), 1, 1) := by kernel_rfl

/-- The row of marks. -/
def seenV (xs : List Int) (j m : Nat) : List Value := (List.range m).map fun k => .bool (seenB xs j k)
theorem seenV_zero (xs : List Int) (m : Nat) : seenV xs 0 m = List.replicate m (.bool false) := by
  unfold seenV
  apply List.ext_getElem
  · simp
  · intro i h1 h2
    simp [seenB_zero]
theorem seenV_len (xs : List Int) (j m : Nat) : (seenV xs j m).length = m := by simp [seenV]
theorem seenV_get (xs : List Int) (j m k : Nat) (h : k < m) : (seenV xs j m)[k]? = some (.bool (seenB xs j k)) := by simp [seenV, h]
theorem seenV_set (xs : List Int) (j m q : Nat) (h : xs[j]?.getD 0 = (q : Int)) : (seenV xs j m).set q (.bool true) = seenV xs (j + 1) m := by
  unfold seenV
  apply List.ext_getElem
  · simp
  · intro i h1 h2
    simp only [List.length_set, List.length_map, List.length_range] at h1
    rw [List.getElem_set]
    by_cases e : q = i
    · subst e
      simp [seenB_same h]
    · simp only [e, if_false, List.getElem_map, List.getElem_range]
      rw [seenB_other (by rw [h]; omega)]

end Go.Proofs.Ytcolaggkeekgoab

/- J0:
  areDifferentBelow, and isPermutation by it. -/
namespace Go.Proofs.Ytcolaggkeekgoab
open Go.RowKit
set_option linter.unusedVariables false
set_option linter.unusedSimpArgs false

theorem owns_form {W : World} {base : Nat} {s : Value} {xs : List Int} {m : Nat} (h : Owns W base s xs) (hx : xs.length = m) : ∃ a cap, s = .slice a m cap := by
  rcases h.shape with ⟨e, a, cap, rfl⟩ | ⟨hn, g, cap, rfl, _⟩
  · rw [e] at hx; simp at hx; subst hx; exact ⟨_, _, rfl⟩
  · rw [hx]; exact ⟨_, _, rfl⟩

set_option maxRecDepth 100000 in
set_option maxHeartbeats 2000000 in
theorem areDifferentBelow_any {base : Nat} {s : Value} {xs : List Int} (hl : xs.length ≤ 1048576) {m : Nat} (hm : m ≤ 4) (b : Bool) (hb : b = true ↔ PermTo (m : Int) xs xs.length) (w : World) (h : Owns w base s xs) :
    Calls Try.prog 90 #[.int .i64 (m : Int), s] w fun e w' => e = .returned (.bool b) ∧ Below w.heap.size w w' := by
  obtain ⟨i0, hi, hz0, hz1, hz2⟩ := info_parts infoB
  have HB := Lib.hid hb
  clear hb
  rcases h.shape with ⟨rfl, a, cap, rfl⟩ | ⟨hn, g, cap, rfl, hbg, hg, hc, hf⟩
  · clear h
    obtain rfl : b = true := HB.out.2 (fun i hi => by simp at hi)
    go_enter Try.func90, Try.ntmps90
    go_wp2_with (at_make; refine wpList_make_full _ rfl _ _ 152 rfl w.heap.size 4 i0 (.bool false) 1 Try.underlying152 hi hz0 hz1 .i64 .i64 _ _ m rfl rfl rfl rfl (by rw [hz2]; omega) (by unfold maxLen; omega) (Nat.le_refl _) ?_; intro w1 hown1 hgrow1)
    have hB : Below w.heap.size w w1 := (Below.refl _ _).grown hgrow1 (Nat.le_refl _) (fun j e => by cases e)
    clear hown1 hgrow1
    refine wp_loop_rounds 1 ?_
    rw [rounds_succ]
    go_wp2
    go_ret
    exact ⟨rfl, hB⟩
  · clear h hf
    generalize hxl : xs.length = n at hl hn hc HB
    have HXL := Lib.hid hxl
    clear hxl
    go_enter Try.func90, Try.ntmps90
    go_wp2_with (at_make; refine wpList_make_full _ rfl _ _ 152 rfl w.heap.size 4 i0 (.bool false) 1 Try.underlying152 hi hz0 hz1 .i64 .i64 _ _ m rfl rfl rfl rfl (by rw [hz2]; omega) (by unfold maxLen; omega) (Nat.le_refl _) ?_; intro w1 hown1 hgrow1)
    have hB : Below w.heap.size w w1 := (Below.refl _ _).grown hgrow1 (Nat.le_refl _) (fun j e => by cases e)
    rw [show (Value.bool false).cells = #[.bool false] from rfl, toList_madeCells_one, Nat.mul_one, ← seenV_zero xs m] at hown1
    clear hgrow1
    go_loopw [12] (fun i' wr => ∃ j : Nat, j ≤ n ∧ i' = .int .i64 j ∧ Hid (PermTo (m : Int) xs j) ∧ wr.ownsRow w.heap.size 4 1 (.slice (some ⟨w.heap.size, 0, none⟩) m m) m (seenV xs j m) ∧ Below w.heap.size w wr) (fun i' _ => n - (intOf i').toNat)
    case atStart => exact ⟨0, Nat.zero_le _, rfl, Lib.hid (fun i hi => by omega), hown1, hB⟩
    case round =>
      clear hown1 hB
      obtain ⟨j, hj, rfl, HP, ho, hN⟩ := hrel
      by_cases hlt : j < n
      · have hu := (hN.cell (p := ⟨g, j, none⟩) hg).trans (hc.out j hlt)
        cases hin : inB (xs[j]?.getD 0) 0 ((m : Int) - 1)
        · obtain rfl : b = false := by
            cases b
            · rfl
            · exact absurd (HB.out.1 rfl) (PermTo.not_in hlt (by simpa [inB] using hin))
          clear ho
          go_wp2_with (go_at_call 150; refine (isVariable_is hin _).mono ?_; rintro e w' ⟨rfl, rfl⟩)
          go_ret
          exact ⟨rfl, hN⟩
        · have hin2 : 0 ≤ xs[j]?.getD 0 ∧ xs[j]?.getD 0 ≤ (m : Int) - 1 := by simpa [inB] using hin
          obtain ⟨q, hq⟩ : ∃ q : Nat, xs[j]?.getD 0 = (q : Int) := ⟨(xs[j]?.getD 0).toNat, by omega⟩
          have hqm : q < m := by omega
          have hcq : wr.cell? ⟨w.heap.size, q, none⟩ = some (.bool (seenB xs j q)) := by rw [ho.cellAt q (by omega)]; exact seenV_get xs j m q hqm
          have hfq := ho.frozenAt q
          have hst := (ho.stored q (.bool true)).1
          rw [seenV_set xs j m q hq] at hst
          have HST := Lib.hid hst
          have HQ := Lib.hid hq
          rw [hq] at hu hin
          cases hsn : seenB xs j q
          · rw [hsn] at hcq
            have HP2 := Lib.hid (HP.out.step hin2 (fun hex => by rw [hq] at hex; have := seenB_true.2 hex; rw [hsn] at this; cases this))
            clear hin2 hq hsn hst ho
            go_wp2_with (go_at_call 150; refine (isVariable_is hin _).mono ?_; rintro e w' ⟨rfl, rfl⟩)
            go_roundw
            case rel => exact ⟨j + 1, by omega, by go_num, HP2, HST.out, hN.setCell (p := ⟨w.heap.size, q, none⟩) (Nat.le_refl _) _⟩
            case measure => simp [intOf]; omega
          · rw [hsn] at hcq
            obtain rfl : b = false := by
              cases b
              · rfl
              · exact absurd (HB.out.1 rfl) (PermTo.not_twice hlt (by rw [hq]; exact seenB_true.1 hsn))
            clear hin2 hq hsn hst ho
            go_wp2_with (go_at_call 150; refine (isVariable_is hin _).mono ?_; rintro e w' ⟨rfl, rfl⟩)
            go_ret
            exact ⟨rfl, hN⟩
      · obtain rfl : j = n := by omega
        clear ho
        obtain rfl : b = true := HB.out.2 HP.out
        go_wp2
        go_ret
        exact ⟨rfl, hN⟩

end Go.Proofs.Ytcolaggkeekgoab

/- TU12:
  ProjectRelation: the mathematics of places, the model where there is an error. -/
namespace Go.Proofs.Ytcolaggkeekgoab
open Go.RowKit
set_option linter.unusedVariables false
set_option linter.unusedSimpArgs false

/-- Different places below n are at most n. -/
theorem perm_le {n : Nat} (hn : n ≤ 4) {xs : List Int} {m : Nat} (h : PermTo (n : Int) xs m) : m ≤ n := by
  refine Nat.le_of_not_lt fun hlt => ?_
  have v : ∀ i, i < m → 0 ≤ xs[i]?.getD 0 ∧ xs[i]?.getD 0 ≤ (n : Int) - 1 := fun i hi => (h i hi).1
  have d : ∀ i k, k < i → i < m → xs[k]?.getD 0 ≠ xs[i]?.getD 0 := fun i k hk hi => (h i hi).2 k hk
  rcases (show n = 0 ∨ n = 1 ∨ n = 2 ∨ n = 3 ∨ n = 4 by omega) with rfl | rfl | rfl | rfl | rfl
  · have := v 0 (by omega); omega
  · have a0 := v 0 (by omega); have a1 := v 1 (by omega); have d0 := d 1 0 (by omega) (by omega); omega
  · have a0 := v 0 (by omega); have a1 := v 1 (by omega); have a2 := v 2 (by omega); have d0 := d 1 0 (by omega) (by omega); have d1 := d 2 0 (by omega) (by omega); have d2 := d 2 1 (by omega) (by omega); omega
  · have a0 := v 0 (by omega); have a1 := v 1 (by omega); have a2 := v 2 (by omega); have a3 := v 3 (by omega); have d0 := d 1 0 (by omega) (by omega); have d1 := d 2 0 (by omega) (by omega); have d2 := d 2 1 (by omega) (by omega); have d3 := d 3 0 (by omega) (by omega); have d4 := d 3 1 (by omega) (by omega); have d5 := d 3 2 (by omega) (by omega); omega
  · have a0 := v 0 (by omega); have a1 := v 1 (by omega); have a2 := v 2 (by omega); have a3 := v 3 (by omega); have a4 := v 4 (by omega); have d0 := d 1 0 (by omega) (by omega); have d1 := d 2 0 (by omega) (by omega); have d2 := d 2 1 (by omega) (by omega); have d3 := d 3 0 (by omega) (by omega); have d4 := d 3 1 (by omega) (by omega); have d5 := d 3 2 (by omega) (by omega); have d6 := d 4 0 (by omega) (by omega); have d7 := d 4 1 (by omega) (by omega); have d8 := d 4 2 (by omega) (by omega); have d9 := d 4 3 (by omega) (by omega); omega

set_option maxRecDepth 100000 in
set_option maxHeartbeats 4000000 in
theorem specProjectRelation_a {n0 b0 : Int} (h0 : isR n0 b0 = false) (s : Value) (w : World) :
    Calls Try.prog 23 #[.agg #[.int .i64 n0, .int .i64 b0], s] w fun e w' => e = .returned (.tuple #[.agg #[.int .i64 0, .int .i64 0], .int .i64 1]) ∧ Below w.heap.size w w' := by
  obtain ⟨W1, hW1, hR⟩ := rel1_new n0 b0 w
  have p0 := hR.p0
  have p1 := hR.p1
  go_enter Try.func23, Try.ntmps23
  go_wp2_with fail
  clear hW1
  refine (l06Is_is h0 _).mono ?_
  rintro e w2 ⟨rfl, hb2⟩
  replace hR := hR.below hb2
  have c0 := hR.c0
  have c1 := hR.c1
  have f0 := hR.f0
  have f1 := hR.f1
  have hold := hR.old
  clear hR p0 p1 hb2
  go_wp2
  exact bodyPost_ret (v := .tuple #[.agg #[.int .i64 0, .int .i64 0], .int .i64 1]) (by simp [results, Try.results23, go_sem, c0, c1]) rfl ⟨rfl, (hold.setCell (p := ⟨w.heap.size + 1, 0, none⟩) (by simp) _).setCell (p := ⟨w.heap.size + 1, 1, none⟩) (by simp) _⟩

set_option maxRecDepth 100000 in
set_option maxHeartbeats 4000000 in
theorem specProjectRelation_b {n0 b0 : Int} (h0 : isR n0 b0 = true) {base : Nat} {s : Value} {xs : List Int} (hl : xs.length ≤ 1048576) (hm : xs.length = 0 ∨ n0 < (xs.length : Int)) (w : World) (ho : Owns w base s xs) :
    Calls Try.prog 23 #[.agg #[.int .i64 n0, .int .i64 b0], s] w fun e w' => e = .returned (.tuple #[.agg #[.int .i64 0, .int .i64 0], .int .i64 2]) ∧ Below w.heap.size w w' := by
  obtain ⟨a, cap, rfl⟩ := ho.slice
  clear ho
  generalize xs.length = m at hl hm ⊢
  have hd1 : decide ((m : Int) < 1) = decide (m = 0) := by rw [decide_eq_decide]; omega
  have hd2 : m ≠ 0 → decide (n0 < (m : Int)) = true := fun h => by simp; omega
  obtain ⟨W1, hW1, hR⟩ := rel1_new n0 b0 w
  have p0 := hR.p0
  have p1 := hR.p1
  by_cases hm0 : m = 0
  · subst hm0
    clear hd1 hd2 hm
    go_enter Try.func23, Try.ntmps23
    go_wp2_with fail
    clear hW1
    refine (l06Is_is h0 _).mono ?_
    rintro e w2 ⟨rfl, hb2⟩
    replace hR := hR.below hb2
    clear p0 p1 hb2
    have p0 := hR.p0
    have p1 := hR.p1
    have c0 := hR.c0
    have c1 := hR.c1
    have f0 := hR.f0
    have f1 := hR.f1
    have hold := hR.old
    clear hR
    go_wp2
    exact bodyPost_ret (v := .tuple #[.agg #[.int .i64 0, .int .i64 0], .int .i64 2]) (by simp [results, Try.results23, go_sem, c0, c1]) rfl ⟨rfl, (hold.setCell (p := ⟨w.heap.size + 1, 0, none⟩) (by simp) _).setCell (p := ⟨w.heap.size + 1, 1, none⟩) (by simp) _⟩
  · rw [decide_eq_false hm0] at hd1
    have hd3 := hd2 hm0
    clear hd2 hm hm0
    go_enter Try.func23, Try.ntmps23
    go_wp2_with fail
    clear hW1
    refine (l06Is_is h0 _).mono ?_
    rintro e w2 ⟨rfl, hb2⟩
    replace hR := hR.below hb2
    clear p0 p1 hb2
    have p0 := hR.p0
    have p1 := hR.p1
    have c0 := hR.c0
    have c1 := hR.c1
    have f0 := hR.f0
    have f1 := hR.f1
    have hold := hR.old
    clear hR
    go_wp2
    exact bodyPost_ret (v := .tuple #[.agg #[.int .i64 0, .int .i64 0], .int .i64 2]) (by simp [results, Try.results23, go_sem, c0, c1]) rfl ⟨rfl, (hold.setCell (p := ⟨w.heap.size + 1, 0, none⟩) (by simp) _).setCell (p := ⟨w.heap.size + 1, 1, none⟩) (by simp) _⟩

set_option maxRecDepth 100000 in
set_option maxHeartbeats 8000000 in
theorem specProjectRelation_c {n : Nat} {b0 : Int} (h0 : isR (n : Int) b0 = true) {base : Nat} {s : Value} {xs : List Int} {m : Nat} (hxm : xs.length = m) (hm1 : 1 ≤ m) (hmn : m ≤ n) (hP : ¬ PermTo (n : Int) xs m) (w : World) (ho : Owns w base s xs) :
    Calls Try.prog 23 #[.agg #[.int .i64 n, .int .i64 b0], s] w fun e w' => e = .returned (.tuple #[.agg #[.int .i64 0, .int .i64 0], .int .i64 2]) ∧ Below w.heap.size w w' := by
  have hn4 : n ≤ 4 := by have := (isR_iff.1 h0).2.1; omega
  rcases ho.shape with ⟨e, _⟩ | ⟨_, g, cap, rfl, _, hg, hc, _⟩
  · rw [e] at hxm; simp at hxm; omega
  rw [hxm] at hc ⊢
  have HP := Lib.hid hP
  clear ho hP hxm
  have hs1 : IntKind.i64.wrap ((n : Int) - 1) = (n : Int) - 1 := wrap64_small (by omega) (by omega)
  have hd1 : decide ((m : Int) < 1) = false := by simp; omega
  have hd2 : decide ((n : Int) < (m : Int)) = false := by simp; omega
  obtain ⟨W1, hW1, hR⟩ := rel1_new n b0 w
  have p0 := hR.p0
  have p1 := hR.p1
  go_enter Try.func23, Try.ntmps23
  go_wp2_with fail
  clear hW1
  refine (l06Is_is h0 _).mono ?_
  rintro e w2 ⟨rfl, hb2⟩
  replace hR := hR.below hb2
  clear p0 p1 hb2
  have p0 := hR.p0
  go_wp2
  clear hd1 hd2 p0
  go_loopw [6] (fun i' wr => ∃ i : Nat, i ≤ m ∧ i' = .int .i64 i ∧ Hid (PermTo (n : Int) xs i) ∧ Rel1 w.heap.size n b0 w wr) (fun i' _ => m - (intOf i').toNat)
  case atStart => exact ⟨0, Nat.zero_le _, rfl, Lib.hid (fun i hi => by omega), hR⟩
  case round =>
    clear hR
    obtain ⟨i, hi, rfl, HI, hR⟩ := hrel
    by_cases hlt : i < m
    · have t1 := (hR.old.cell (p := ⟨g, i, none⟩) hg).trans (hc.out i hlt)
      have p0 := hR.p0
      cases hin : inB (xs[i]?.getD 0) 0 ((n : Int) - 1)
      · have IN := Lib.hid (fun w => l01In_is hin w)
        generalize xs[i]?.getD 0 = v at t1 IN hin
        go_wp2
        go_quiet (first | (go_at_call 79; exact quiet_eq (IN.out _)))
        replace hR := hR.below (below_drewN (Below.refl _ _) nq)
        generalize wr.drewN nq = wq at hR ⊢
        have c0 := hR.c0
        have c1 := hR.c1
        have f0 := hR.f0
        have f1 := hR.f1
        have hold := hR.old
        clear hR
        go_wp2
        exact bodyPost_ret (v := .tuple #[.agg #[.int .i64 0, .int .i64 0], .int .i64 2]) (by simp [results, Try.results23, go_sem, c0, c1]) rfl ⟨rfl, (hold.setCell (p := ⟨w.heap.size + 1, 0, none⟩) (by simp) _).setCell (p := ⟨w.heap.size + 1, 1, none⟩) (by simp) _⟩
      · have IN := Lib.hid (fun w => l01In_is hin w)
        have hb : 0 ≤ xs[i]?.getD 0 ∧ xs[i]?.getD 0 ≤ (n : Int) - 1 := by simpa [inB] using hin
        have HB := Lib.hid hb
        clear hb hin
        obtain ⟨v, hv⟩ : ∃ v, xs[i]?.getD 0 = v := ⟨_, rfl⟩
        have HV := Lib.hid hv
        rw [hv] at t1 IN
        clear hv
        go_wp2
        go_quiet (first | (go_at_call 79; exact quiet_eq (IN.out _)))
        replace hR := hR.below (below_drewN (Below.refl _ _) nq)
        generalize wr.drewN nq = wq at hR ⊢
        clear t1 p0
        go_wp2
        go_loopw [7] (fun k' wr => ∃ k : Nat, k ≤ i ∧ k' = .int .i64 k ∧ Hid (¬ ∃ q, q < k ∧ xs[q]?.getD 0 = xs[i]?.getD 0) ∧ Rel1 w.heap.size n b0 w wr) (fun k' _ => i - (intOf k').toNat)
        case atStart => exact ⟨0, Nat.zero_le _, rfl, Lib.hid (fun ⟨q, hq, _⟩ => by omega), hR⟩
        case round =>
          clear hR
          obtain ⟨k, hk, rfl, HK, hR⟩ := hrel
          by_cases hki : k < i
          · have t1 := (hR.old.cell (p := ⟨g, i, none⟩) hg).trans (hc.out i hlt)
            have t2 := (hR.old.cell (p := ⟨g, k, none⟩) hg).trans (hc.out k (by omega))
            rw [HV.out] at t1
            by_cases he : xs[k]?.getD 0 = v
            · rw [he] at t2
              have hq2 : (v == v) = true := by simp
              clear he
              go_wp2
              go_quiet (fail)
              replace hR := hR.below (below_drewN (Below.refl _ _) nq)
              generalize wr.drewN nq = wq at hR ⊢
              have c0 := hR.c0
              have c1 := hR.c1
              have f0 := hR.f0
              have f1 := hR.f1
              have hold := hR.old
              clear hR t1 t2
              go_wp2
              exact bodyPost_ret (v := .tuple #[.agg #[.int .i64 0, .int .i64 0], .int .i64 2]) (by simp [results, Try.results23, go_sem, c0, c1]) rfl ⟨rfl, (hold.setCell (p := ⟨w.heap.size + 1, 0, none⟩) (by simp) _).setCell (p := ⟨w.heap.size + 1, 1, none⟩) (by simp) _⟩
            · have HNX : Hid (¬ ∃ q, q < k + 1 ∧ xs[q]?.getD 0 = xs[i]?.getD 0) := Lib.hid fun ⟨q, hq, e⟩ => by
                by_cases hqk : q = k
                · subst hqk; rw [HV.out] at e; exact he e
                · exact HK.out ⟨q, by omega, e⟩
              generalize xs[k]?.getD 0 = u at t2 he
              have hq2 : (v == u) = false := by simp; omega
              clear he
              go_wp2
              go_quiet (fail)
              replace hR := hR.below (below_drewN (Below.refl _ _) nq)
              generalize wr.drewN nq = wq at hR ⊢
              clear t1 t2
              go_wp2
              go_roundw
              case rel => exact ⟨k + 1, by omega, by go_num, HNX, hR⟩
              case measure => simp [intOf]; omega
          · obtain rfl : k = i := by omega
            have HN := Lib.hid (HI.out.step HB.out HK.out)
            go_wp2
            go_roundw
            case rel => exact ⟨k + 1, by omega, by go_num, HN, hR⟩
            case measure => simp [intOf]; omega
    · obtain rfl : i = m := by omega
      exact absurd HI.out HP.out
end Go.Proofs.Ytcolaggkeekgoab
