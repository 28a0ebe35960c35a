/-
  A list without one place.
-/
import Derived.Test.YtkemegiofiemfaaQ9
import Derived.Deep.RegionWith
namespace Go.Proofs.Ytkemegiofiemfaa
open Go.RowKit
set_option linter.unusedVariables false
set_option linter.unusedSimpArgs false

theorem fcells_take (xs : List (Int × Int)) (i j : Nat) (u : Value) (h : (fcells (xs.take i))[j]? = some u) : (fcells xs)[j]? = some u := by
  have e : fcells xs = fcells (xs.take i) ++ fcells (xs.drop i) := by rw [← fcells_append, List.take_append_drop]
  rw [e, List.getElem?_append_left (List.getElem?_eq_some_iff.1 h).1]
  exact h
theorem fcells_drop (xs : List (Int × Int)) (i j : Nat) (hi : i ≤ xs.length) (u : Value) (h : (fcells (xs.drop i))[j]? = some u) : (fcells xs)[i * 2 + j]? = some u := by
  have e : fcells xs = fcells (xs.take i) ++ fcells (xs.drop i) := by rw [← fcells_append, List.take_append_drop]
  have hl : (fcells (xs.take i)).length = i * 2 := by rw [fcells_length, List.length_take, Nat.min_eq_left hi]
  rw [e, List.getElem?_append_right (by omega), hl, Nat.add_sub_cancel_left]
  exact h

set_option maxRecDepth 100000 in
set_option maxHeartbeats 4000000 in
theorem withoutPlace_mid (g L cap i : Nat) (ys1 ys2 : List (Int × Int)) (h8 : L ≤ 8) (hi : i < L) (hle : L ≤ cap) (hmax : cap ≤ 9223372036854775807) (hne : ¬ cap = i + 1) (ht : Hid (ys1.length = i)) (hdr : Hid (ys2.length = L - (i + 1))) (w : World)
    (H1 : Hid (∀ (j : Nat) (u : Value), (fcells ys1)[j]? = some u → w.cell? ((⟨g, 0, none⟩ : Addr).add j) = some u)) (H2 : Hid (∀ (j : Nat) (u : Value), (fcells ys2)[j]? = some u → w.cell? ((⟨g, (i + 1) * 2, none⟩ : Addr).add j) = some u)) :
    Calls Try.prog 103 #[.slice (some ⟨g, 0, none⟩) L cap, .int .i64 (i : Int)] w fun e w' => ∃ v b, e = .returned v ∧ OwnsF w' b v (ys1 ++ ys2) ∧ Below w.heap.size w w' := by
  have a1 : (i : Int) ≤ (cap : Int) := by omega
  have a2 : (i : Int) + 1 ≤ (L : Int) := by omega
  have a3 : (0 : Int) ≤ (i : Int) + 1 := by omega
  have a4 : ¬ (cap = i + 1) := hne
  have a6 : IntKind.i64.wrap ((i : Int) + 1) = (i : Int) + 1 := wrap64_small (by omega) (by omega)
  clear hne
  obtain ⟨W1, hW1⟩ : ∃ W1, w.alloc (.cells #[.slice (some ⟨g, 0, none⟩) i cap, .slice (some ⟨g, (i + 1) * 2, none⟩) (L - (i + 1)) (cap - (i + 1))] 40) = W1 := ⟨_, rfl⟩
  have p0 : W1.drew.cell? ⟨w.heap.size, 0, none⟩ = some (.slice (some ⟨g, 0, none⟩) ys1.length cap) := by rw [← hW1, ht.out]; simp [go_sem]
  have p1 : W1.drew.cell? ⟨w.heap.size, 1, none⟩ = some (.slice (some ⟨g, (i + 1) * 2, none⟩) ys2.length (cap - (i + 1))) := by rw [← hW1, hdr.out]; simp [go_sem]
  have hB : Below w.heap.size w W1.drew := by rw [← hW1]; exact (bnew _ _).drew
  have C := Lib.hid (concatF_any w.heap.size ⟨g, 0, none⟩ ⟨g, (i + 1) * 2, none⟩ cap (cap - (i + 1)) ys1 ys2 (by rw [ht.out, hdr.out]; omega) W1.drew p0 p1
    (Lib.hid fun j u hu => kc hB (H1.out j u hu)) (Lib.hid fun j u hu => kc hB (H2.out j u hu)))
  clear p0 p1
  go_enter Try.func103, Try.ntmps103
  go_wp2_with fail
  go_region_with (go_at_call 119; refine C.out.mono ?_; rintro e w3 ⟨v, rfl, hown, hb3⟩)
  all_goals
    have hb4 := bthen hB hb3
    go_wp2
    go_ret
    exact ⟨_, _, rfl, hown, hb4⟩

set_option maxRecDepth 100000 in
set_option maxHeartbeats 4000000 in
theorem withoutPlace_end (g i : Nat) (ys1 ys2 : List (Int × Int)) (h8 : i < 8) (ht : Hid (ys1.length = i)) (hdr : Hid (ys2.length = 0)) (w : World)
    (H1 : Hid (∀ (j : Nat) (u : Value), (fcells ys1)[j]? = some u → w.cell? ((⟨g, 0, none⟩ : Addr).add j) = some u)) (H2 : Hid (∀ (j : Nat) (u : Value), (fcells ys2)[j]? = some u → w.cell? ((⟨g, 0, none⟩ : Addr).add j) = some u)) :
    Calls Try.prog 103 #[.slice (some ⟨g, 0, none⟩) (i + 1) (i + 1), .int .i64 (i : Int)] w fun e w' => ∃ v b, e = .returned v ∧ OwnsF w' b v (ys1 ++ ys2) ∧ Below w.heap.size w w' := by
  have a3 : (0 : Int) ≤ (i : Int) + 1 := by omega
  have a6 : IntKind.i64.wrap ((i : Int) + 1) = (i : Int) + 1 := wrap64_small (by omega) (by omega)
  obtain ⟨W1, hW1⟩ : ∃ W1, w.alloc (.cells #[.slice (some ⟨g, 0, none⟩) i (i + 1), .slice (some ⟨g, 0, none⟩) 0 0] 40) = W1 := ⟨_, rfl⟩
  have p0 : W1.drew.cell? ⟨w.heap.size, 0, none⟩ = some (.slice (some ⟨g, 0, none⟩) ys1.length (i + 1)) := by rw [← hW1, ht.out]; simp [go_sem]
  have p1 : W1.drew.cell? ⟨w.heap.size, 1, none⟩ = some (.slice (some ⟨g, 0, none⟩) ys2.length 0) := by rw [← hW1, hdr.out]; simp [go_sem]
  have hB : Below w.heap.size w W1.drew := by rw [← hW1]; exact (bnew _ _).drew
  have C := Lib.hid (concatF_any w.heap.size ⟨g, 0, none⟩ ⟨g, 0, none⟩ (i + 1) 0 ys1 ys2 (by rw [ht.out, hdr.out]; omega) W1.drew p0 p1
    (Lib.hid fun j u hu => kc hB (H1.out j u hu)) (Lib.hid fun j u hu => kc hB (H2.out j u hu)))
  clear p0 p1
  go_enter Try.func103, Try.ntmps103
  go_wp2_with fail
  go_region_with (go_at_call 119; refine C.out.mono ?_; rintro e w3 ⟨v, rfl, hown, hb3⟩)
  all_goals
    have hb4 := bthen hB hb3
    go_wp2
    go_ret
    exact ⟨_, _, rfl, hown, hb4⟩

theorem add_at (g a j : Nat) : (⟨g, a, none⟩ : Addr).add j = ⟨g, a + j, none⟩ := by
  simp only [Addr.add]
  split <;> simp_all

theorem withoutPlace_any {base : Nat} {s : Value} {xs : List (Int × Int)} (h8 : xs.length ≤ 8) (i : Nat) (hi : i < xs.length) (w : World) (h : OwnsF w base s xs) :
    Calls Try.prog 103 #[s, .int .i64 (i : Int)] w fun e w' => ∃ v b, e = .returned v ∧ OwnsF w' b v (xs.eraseIdx i) ∧ Below w.heap.size w w' := by
  obtain ⟨g, cap, rfl, hle, hmax⟩ : ∃ g cap, s = .slice (some ⟨g, 0, none⟩) xs.length cap ∧ xs.length ≤ cap ∧ cap ≤ maxLen := by
    rcases h.2 with ⟨_, h0⟩ | ⟨g, cap, cur, rfl, _, _, h1, h2, _⟩
    · omega
    · exact ⟨g, cap, rfl, h1, h2⟩
  unfold maxLen at hmax
  have hcell : ∀ (j : Nat) (u : Value), (fcells xs)[j]? = some u → w.cell? ⟨g, j, none⟩ = some u := fun j u hu => by
    have h1 : j < xs.length * 2 := by rw [← fcells_length]; exact (List.getElem?_eq_some_iff.1 hu).1
    rw [World.ownsRow.cellAt h j h1]
    exact hu
  have ht : (xs.take i).length = i := by rw [List.length_take]; omega
  have hdr : (xs.drop (i + 1)).length = xs.length - (i + 1) := by rw [List.length_drop]
  have H1 : ∀ (j : Nat) (u : Value), (fcells (xs.take i))[j]? = some u → w.cell? ((⟨g, 0, none⟩ : Addr).add j) = some u := fun j u hu => by
    rw [add_at, Nat.zero_add]
    exact hcell j u (fcells_take xs i j u hu)
  rw [List.eraseIdx_eq_take_drop_succ]
  by_cases hce : cap = i + 1
  · have hL : xs.length = i + 1 := by omega
    have hd0 : xs.drop (i + 1) = [] := List.drop_eq_nil_of_le (by omega)
    rw [hL, hce]
    refine withoutPlace_end g i (xs.take i) (xs.drop (i + 1)) (by omega) (Lib.hid ht) (Lib.hid (by rw [hd0]; rfl)) w (Lib.hid H1) (Lib.hid fun j u hu => ?_)
    rw [hd0] at hu
    simp [fcells] at hu
  · refine withoutPlace_mid g xs.length cap i (xs.take i) (xs.drop (i + 1)) h8 hi hle (by omega) hce (Lib.hid ht) (Lib.hid hdr) w (Lib.hid H1) (Lib.hid fun j u hu => ?_)
    rw [add_at]
    exact hcell _ u (fcells_drop xs (i + 1) j (by omega) u hu)
end Go.Proofs.Ytkemegiofiemfaa
