/-
  EssentialOf in both packages: the essential variables, ascending.
-/
import Derived.Test.YtclpfjedijpnfaaD4
import Derived.Test.YtclpfjedijpnfaaL1
namespace Go.Proofs.Ytclpfjedijpnfaa
open Go.RowKit

/-- The essential ones among the variables below k. -/
def essK (n : Int) (x k : Nat) : List Int := ((List.range k).filter fun i => fixN n x i 0 != fixN n x i 1).map fun (j : Nat) => (j : Int)
theorem essK_yes (n : Int) (x k : Nat) (h : fixN n x k 0 ≠ fixN n x k 1) : essK n x (k + 1) = essK n x k ++ [(k : Int)] := by simp [essK, List.range_succ, h]
theorem essK_no (n : Int) (x k : Nat) (h : fixN n x k 0 = fixN n x k 1) : essK n x (k + 1) = essK n x k := by simp [essK, List.range_succ, h]
theorem essK_len (n : Int) (x k : Nat) : (essK n x k).length ≤ k := by
  unfold essK
  rw [List.length_map]
  exact Nat.le_trans (List.length_filter_le _ _) (by simp)
theorem ints_snoc (xs : List Int) (x : Int) : ints (xs ++ [x]) = ints xs ++ [.int .i64 x] := by simp [ints]

theorem Owns.mono {W : World} {b1 b2 : Nat} {s : Value} {xs : List Int} (h : Owns W b1 s xs) (hb : b2 ≤ b1) : Owns W b2 s xs := by
  obtain ⟨h1, h2 | ⟨g, cap, cur, e1, e2, e3, r⟩⟩ := h
  · exact ⟨h1, .inl h2⟩
  · exact ⟨h1, .inr ⟨g, cap, cur, e1, Nat.le_trans hb e2, e3, r⟩⟩

/-- A post with 'there is a list'. -/
def ListPost (base : Nat) (xs : List Int) (w : World) (e : Ending) (w' : World) : Prop := ∃ s, e = .returned s ∧ Owns w' base s xs ∧ Below w.heap.size w w'
def ListCodePost (base : Nat) (xs : List Int) (c : Int) (w : World) (e : Ending) (w' : World) : Prop := ∃ s, e = .returned (.tuple #[s, .int .i64 c]) ∧ Owns w' base s xs ∧ Below w.heap.size w w'

theorem step_heldW {W w' W0 : World} {a b : Addr} {u v : Value} (hb : Below W.heap.size W w') (h : (W.cell? a = some u ∧ W.cell? b = some v) ∧ Below W0.heap.size W0 W) :
    (w'.cell? a = some u ∧ w'.cell? b = some v) ∧ Below W0.heap.size W0 w' := ⟨⟨kc hb h.1.1, kc hb h.1.2⟩, bthen h.2 hb⟩

set_option maxRecDepth 100000 in
set_option maxHeartbeats 2000000 in
theorem l01Essential_any {n : Int} {x R : Nat} (ok : FOk n x R) (w : World) :
    Calls Try.prog 143 #[.agg #[.int .i64 n, .int .i64 (x : Int)]] w (ListPost w.heap.size (essK n x n.toNat) w) := by
  obtain ⟨i0, hi, hz0, hz1, hz2⟩ := info_parts infoI
  have n0 := ok.h0
  have n4 := ok.h4
  obtain ⟨W1, hW1⟩ : ∃ W1, w.alloc (.cells #[.int .i64 n, .int .i64 (x : Int)] 25) = W1 := ⟨_, rfl⟩
  have p0 : W1.cell? ⟨w.heap.size, 0, none⟩ = some (.int .i64 n) := by rw [← hW1]; simp [go_sem]
  have p1 : W1.cell? ⟨w.heap.size, 1, none⟩ = some (.int .i64 (x : Int)) := by rw [← hW1]; simp [go_sem]
  have hB : Below w.heap.size w W1 := by rw [← hW1]; exact bnew _ _
  have l0 : w.heap.size < W1.heap.size := cell_lt p0
  go_enter Try.func143, Try.ntmps143
  go_wp2
  clear hW1
  go_loopw [3, 4] (fun s i' wr => ∃ k : Nat, (k : Int) ≤ n ∧ i' = .int .i64 k ∧ Owns wr W1.heap.size s (essK n x k) ∧ Below W1.heap.size W1 wr)
    (fun _ i' _ => (n - intOf i').toNat)
  case atStart => exact ⟨0, by omega, rfl, World.ownsRow_lit W1 #[] 0 (Nat.le_refl _) (by decide) rfl, bnew _ _⟩
  case round =>
    obtain ⟨k, hk, rfl, hown, hN⟩ := hrel
    have hsz := hN.size
    have q0 := kc hN p0
    have q1 := kc hN p1
    by_cases hlt : (k : Int) < n
    · have hlen := essK_len n x k
      have lz := cell_lt q0
      dsimp only at lz
      by_cases he : fixN n x k 0 = fixN n x k 1
      · have hes : ((fixN n x k 0 : Int) == (fixN n x k 1 : Int)) = true := by simp [he]
        have HS := Lib.hid (essK_no n x k he)
        clear he
        go_wp2
        go_region_held3 (fun w' => (w'.cell? ⟨w.heap.size, 0, none⟩ = some (.int .i64 n) ∧ w'.cell? ⟨w.heap.size, 1, none⟩ = some (.int .i64 (x : Int))) ∧ Below wr.heap.size wr w')
          (first | exact ⟨⟨q0, q1⟩, (Below.refl _ _).drew⟩ | exact step_heldW hb5 (by assumption))
          (first
            | (go_at_call 133; refine (l01Fix_int ok k hlt _ (by first | exact .inl rfl | exact .inr rfl) _).mono ?_; rintro e w5 ⟨rfl, hb5⟩))
        obtain ⟨⟨a0', a1'⟩, hb6⟩ := ‹(_ ∧ _) ∧ Below wr.heap.size wr _›
        have hown5 : World.ownsRow _ _ _ _ _ _ _ := owns_below hown hb6
        have hN5 := bthen hN hb6
        have hs5 := hN5.size
        clear hown hN hb6 q0 q1
        go_wp2
        go_roundw
        case rel => exact ⟨k + 1, by omega, by go_num, by rw [HS.out]; exact hown5, hN5⟩
        case measure => simp [intOf]; omega
      · have hes : ((fixN n x k 0 : Int) == (fixN n x k 1 : Int)) = false := by simp; omega
        have HS := Lib.hid (essK_yes n x k he)
        clear he
        go_wp2
        go_region_held3 (fun w' => (w'.cell? ⟨w.heap.size, 0, none⟩ = some (.int .i64 n) ∧ w'.cell? ⟨w.heap.size, 1, none⟩ = some (.int .i64 (x : Int))) ∧ Below wr.heap.size wr w')
          (first | exact ⟨⟨q0, q1⟩, (Below.refl _ _).drew⟩ | exact step_heldW hb5 (by assumption))
          (first
            | (go_at_call 133; refine (l01Fix_int ok k hlt _ (by first | exact .inl rfl | exact .inr rfl) _).mono ?_; rintro e w5 ⟨rfl, hb5⟩))
        obtain ⟨⟨a0', a1'⟩, hb6⟩ := ‹(_ ∧ _) ∧ Below wr.heap.size wr _›
        have hown5 : World.ownsRow _ _ _ _ _ _ _ := owns_below hown hb6
        have hN5 := bthen hN hb6
        have hs5 := hN5.size
        clear hown hN hb6 q0 q1
        go_wp2_with (first
          | (at_builtin; refine wpList_append_own _ rfl _ _ 36 rfl W1.heap.size 2 i0 (.int .i64 0) 1 8 Try.underlying36 hi hz0 hz1 hz2 rfl (by decide) _ _ _ rfl (hown5.alloc _) ⟨w5.heap.size, 0, none⟩ 1 1 [.int .i64 (k : Int)] rfl rfl (cell_one_new _ _ _) (one_cell_int _) (by unfold maxLen; omega) (by omega) (by simp; omega) ?_))
        intro v' w1 hown' hgrow _
        have hN' := (balloc hN5 (.cells #[.int .i64 (k : Int)] 2)).grown hgrow (by simp; omega) (fun j e => (hown5.lt j e).1)
        clear hgrow hown5 hN5 a0' a1'
        go_wp2
        go_roundw
        case rel => exact ⟨k + 1, by omega, by go_num, by rw [HS.out]; unfold Owns; rw [ints_snoc, List.length_append]; exact hown', hN'⟩
        case measure => simp [intOf]; omega
    · obtain hkn : n.toNat = k := by omega
      have HKN := Lib.hid hkn
      have ho := Lib.hid (hown.mono hB.size)
      have hBN := bthen hB hN
      clear hkn hown hN
      go_wp2
      go_ret
      refine ⟨_, rfl, ?_, hBN⟩
      rw [HKN.out]
      exact ho.out

set_option maxRecDepth 100000 in
set_option maxHeartbeats 1000000 in
theorem specEssentialOf_no {n b : Int} (h : isF n b = false) (w : World) :
    Calls Try.prog 63 #[.agg #[.int .i64 n, .int .i64 b]] w (ListCodePost w.heap.size [] 1 w) := by
  go_enter Try.func63, Try.ntmps63
  go_wp2_with (first
    | (go_at_call 85; refine (l01Is_is h _).mono ?_; rintro e w2 ⟨rfl, hb2⟩))
  go_ret2
  exact ⟨_, rfl, Owns.nil _ _, bthen (bnew _ _) hb2⟩

set_option maxRecDepth 100000 in
set_option maxHeartbeats 1000000 in
theorem specEssentialOf_yes {n : Int} {x R : Nat} (ok : FOk n x R) (w : World) :
    Calls Try.prog 63 #[.agg #[.int .i64 n, .int .i64 (x : Int)]] w (ListCodePost w.heap.size (essK n x n.toNat) 0 w) := by
  have h := ok.is
  obtain ⟨W1, hW1⟩ : ∃ W1, w.alloc (.cells #[.int .i64 n, .int .i64 (x : Int)] 25) = W1 := ⟨_, rfl⟩
  have p0 : W1.cell? ⟨w.heap.size, 0, none⟩ = some (.int .i64 n) := by rw [← hW1]; simp [go_sem]
  have p1 : W1.cell? ⟨w.heap.size, 1, none⟩ = some (.int .i64 (x : Int)) := by rw [← hW1]; simp [go_sem]
  have hB : Below w.heap.size w W1 := by rw [← hW1]; exact bnew _ _
  go_enter Try.func63, Try.ntmps63
  go_wp2_with (first
    | (go_at_call 85; refine (l01Is_is h _).mono ?_; rintro e w2 ⟨rfl, hb2⟩; have q0 := kc hb2 p0; have q1 := kc hb2 p1; have hB2 := bthen hB hb2; clear p0 p1)
    | (go_at_call 143; refine (l01Essential_any ok _).mono ?_; rintro e w3 ⟨s, rfl, ho, hb3⟩; have hO := Lib.hid ho; clear ho))
  go_ret2
  exact ⟨_, rfl, hO.out.mono hB2.size, bthen hB2 hb3⟩
end Go.Proofs.Ytclpfjedijpnfaa
