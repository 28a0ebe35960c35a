/-
  Formulas in the model: FuncOfFormula.
-/
import Derived.Test.YtleighihfgabkaaDoorO11
namespace Go.Proofs.YtleighihfgabkaaDoor
open Go.RowKit
set_option linter.unusedVariables false
set_option linter.unusedSimpArgs false

/-- The greatest variable of a text. -/
def mst1 (m : Int) (c : UInt8) : Int := if 97 ≤ c.toNat ∧ c.toNat ≤ 100 then max m ((c.toNat : Int) - 97) else m
def mst (l : List UInt8) : Int := l.foldl mst1 (-1)
theorem mst_bd (l : List UInt8) : -1 ≤ mst l ∧ mst l ≤ 3 := by
  have : ∀ (l : List UInt8) (m : Int), (-1 ≤ m ∧ m ≤ 3) → -1 ≤ l.foldl mst1 m ∧ l.foldl mst1 m ≤ 3 := by
    intro l
    induction l with
    | nil => intro m h; exact h
    | cons c l ih =>
      intro m h
      refine ih _ ?_
      unfold mst1
      split
      · omega
      · exact h
  exact this l (-1) (by decide)
theorem mst1_yes {m : Int} {c : UInt8} (h1 : 97 ≤ c.toNat) (h2 : c.toNat ≤ 100) : mst1 m c = if m < (c.toNat : Int) - 97 then (c.toNat : Int) - 97 else m := by
  unfold mst1
  rw [if_pos ⟨h1, h2⟩, Int.max_def]
  split <;> split <;> omega
theorem mst_take (s : ByteArray) (k : Nat) (h : k < s.size) : mst (s.data.toList.take (k + 1)) = mst1 (mst (s.data.toList.take k)) s[k] := by
  unfold mst
  rw [List.take_succ_eq_append_getElem (by rw [Array.length_toList]; exact h), List.foldl_append]
  rfl
set_option maxRecDepth 100000 in
set_option maxHeartbeats 4000000 in
theorem l05Most_any (s : ByteArray) (hs : s.size ≤ 1048576) (w : World) :
    Calls Tryd.prog 46 #[.string s] w fun e w' => e = .returned (.int .i64 (mst s.data.toList)) ∧ w = w' := by
  have hl : s.data.toList.length ≤ s.size := Nat.le_of_eq Array.length_toList
  go_enter Tryd.func46, Tryd.ntmps46
  go_wp2_with fail
  go_loop [3, 4] (fun c i => ∃ k : Nat, k ≤ s.size ∧ i = .int .i64 k ∧ c = .int .i64 (mst (s.data.toList.take k))) (fun _ i => s.size - (intOf i).toNat)
  case atStart => exact ⟨0, Nat.zero_le _, rfl, rfl⟩
  case round =>
    obtain ⟨k, hk, rfl, rfl⟩ := hrel
    by_cases hlt : k < s.size
    · have G := Lib.hid (mst_take s k hlt)
      have hb := mst_bd (s.data.toList.take k)
      obtain ⟨m, hm⟩ : ∃ m, mst (s.data.toList.take k) = m := ⟨_, rfl⟩
      rw [hm] at hb G
      rw [hm]
      have hm := Lib.hid hm
      have hz : s[k].toNat < 256 := UInt8.toNat_lt _
      by_cases h1 : 97 ≤ s[k].toNat
      · by_cases h2 : s[k].toNat ≤ 100
        · have b1 : decide ((97 : Int) ≤ (s[k].toNat : Int)) = true := by simp; omega
          have b2 : decide ((s[k].toNat : Int) ≤ 100) = true := by simp; omega
          have b3 : ((s[k].toNat : Int) - 97) % 256 = (s[k].toNat : Int) - 97 := by omega
          go_wp2_with fail
          go_round
          case rel => exact ⟨k + 1, by omega, by go_num, by rw [G.out, mst1_yes h1 h2]⟩
          case measure => simp [intOf]; omega
        · have b1 : decide ((97 : Int) ≤ (s[k].toNat : Int)) = true := by simp; omega
          have b2 : decide ((s[k].toNat : Int) ≤ 100) = false := by simp; omega
          go_wp2_with fail
          go_round
          case rel => exact ⟨k + 1, by omega, by go_num, by rw [G.out]; unfold mst1; rw [if_neg (fun h => h2 h.2)]⟩
          case measure => simp [intOf]; omega
      · have b1 : decide ((97 : Int) ≤ (s[k].toNat : Int)) = false := by simp; omega
        go_wp2_with fail
        go_round
        case rel => exact ⟨k + 1, by omega, by go_num, by rw [G.out]; unfold mst1; rw [if_neg (fun h => h1 h.1)]⟩
        case measure => simp [intOf]; omega
    · obtain rfl : k = s.size := by omega
      have e : s.data.toList.take s.size = s.data.toList := List.take_of_length_le hl
      rw [e]
      clear e
      go_wp2_with fail
      go_ret
      exact ⟨rfl, rfl⟩
set_option maxRecDepth 100000 in
set_option maxHeartbeats 4000000 in
theorem specFuncOfFormula_syn {s : ByteArray} (hs : s.size ≤ 1048576) (h : isFm s = false) (n : Int) (w : World) :
    Calls Tryd.prog 15 #[.int .i64 n, .string s] w fun e w' => e = .returned (.tuple #[.agg #[.int .i64 0, .int .i64 0], .int .i64 6]) ∧ Below w.heap.size w w' := by
  have I := Lib.hid (fun w => l05Is_is hs h w)
  obtain ⟨W1, hW1⟩ : ∃ W1, w.alloc (.cells #[.int .i64 0, .int .i64 0] 24) = W1 := ⟨_, rfl⟩
  have hb1 : Below w.heap.size w W1 := by rw [← hW1]; exact bnew _ _
  have c0 : W1.cell? ⟨w.heap.size, 0, none⟩ = some (.int .i64 0) := by rw [← hW1]; simp [go_sem]
  have c1 : W1.cell? ⟨w.heap.size, 1, none⟩ = some (.int .i64 0) := by rw [← hW1]; simp [go_sem]
  have f0 : W1.frozen? ⟨w.heap.size, 0, none⟩ = false := by rw [← hW1]; simp [go_sem]
  have f1 : W1.frozen? ⟨w.heap.size, 1, none⟩ = false := by rw [← hW1]; simp [go_sem]
  go_enter Tryd.func15, Tryd.ntmps15
  go_wp2_with (go_at_call 43; refine (I.out _).mono ?_; rintro e w' ⟨rfl, rfl⟩)
  exact bodyPost_ret (v := .tuple #[.agg #[.int .i64 0, .int .i64 0], .int .i64 6]) (by simp [results, Tryd.results15, go_sem, c0, c1]) rfl ⟨rfl, (hb1.setCell (p := ⟨w.heap.size, 0, none⟩) (Nat.le_refl _) _).setCell (p := ⟨w.heap.size, 1, none⟩) (Nat.le_refl _) _⟩
set_option maxRecDepth 100000 in
set_option maxHeartbeats 4000000 in
theorem specFuncOfFormula_rng {s : ByteArray} (hs : s.size ≤ 1048576) (h : isFm s = true) {n : Int} (hn : inB n 0 4 = false ∨ n ≤ mst s.data.toList) (w : World) :
    Calls Tryd.prog 15 #[.int .i64 n, .string s] w fun e w' => e = .returned (.tuple #[.agg #[.int .i64 0, .int .i64 0], .int .i64 2]) ∧ Below w.heap.size w w' := by
  have I := Lib.hid (fun w => l05Is_is hs h w)
  have M := Lib.hid (fun w => l05Most_any s hs w)
  obtain ⟨m, hm⟩ : ∃ m, mst s.data.toList = m := ⟨_, rfl⟩
  rw [hm] at M hn
  have H := Lib.hid hn
  clear hn hm
  generalize h1 : inB n 0 4 = x
  have N := Lib.hid (fun w => l01In_is h1 w)
  rw [h1] at H
  obtain ⟨W1, hW1⟩ : ∃ W1, w.alloc (.cells #[.int .i64 0, .int .i64 0] 24) = W1 := ⟨_, rfl⟩
  have hb1 : Below w.heap.size w W1 := by rw [← hW1]; exact bnew _ _
  have c0 : W1.cell? ⟨w.heap.size, 0, none⟩ = some (.int .i64 0) := by rw [← hW1]; simp [go_sem]
  have c1 : W1.cell? ⟨w.heap.size, 1, none⟩ = some (.int .i64 0) := by rw [← hW1]; simp [go_sem]
  have f0 : W1.frozen? ⟨w.heap.size, 0, none⟩ = false := by rw [← hW1]; simp [go_sem]
  have f1 : W1.frozen? ⟨w.heap.size, 1, none⟩ = false := by rw [← hW1]; simp [go_sem]
  cases x
  · clear H h1
    go_enter Tryd.func15, Tryd.ntmps15
    go_wp2_with (first
      | (go_at_call 43; refine (I.out _).mono ?_; rintro e w' ⟨rfl, rfl⟩)
      | (go_at_call 45; refine (N.out _).mono ?_; rintro e w' ⟨rfl, rfl⟩))
    exact bodyPost_ret (v := .tuple #[.agg #[.int .i64 0, .int .i64 0], .int .i64 2]) (by simp [results, Tryd.results15, go_sem, c0, c1]) rfl ⟨rfl, (hb1.setCell (p := ⟨w.heap.size, 0, none⟩) (Nat.le_refl _) _).setCell (p := ⟨w.heap.size, 1, none⟩) (Nat.le_refl _) _⟩
  · have b : decide (n ≤ m) = true := by simpa using H.out
    clear H h1
    go_enter Tryd.func15, Tryd.ntmps15
    go_wp2_with (first
      | (go_at_call 43; refine (I.out _).mono ?_; rintro e w' ⟨rfl, rfl⟩)
      | (go_at_call 45; refine (N.out _).mono ?_; rintro e w' ⟨rfl, rfl⟩)
      | (go_at_call 46; refine (M.out _).mono ?_; rintro e w' ⟨rfl, rfl⟩))
    exact bodyPost_ret (v := .tuple #[.agg #[.int .i64 0, .int .i64 0], .int .i64 2]) (by simp [results, Tryd.results15, go_sem, c0, c1]) rfl ⟨rfl, (hb1.setCell (p := ⟨w.heap.size, 0, none⟩) (Nat.le_refl _) _).setCell (p := ⟨w.heap.size, 1, none⟩) (Nat.le_refl _) _⟩
set_option maxRecDepth 100000 in
set_option maxHeartbeats 4000000 in
theorem specFuncOfFormula_yes {f : Fm} (wf : f.wf) (hsz : f.txt.length ≤ 60) {n : Int} {R : Nat} (ok : FOk n 0 R) (hn : mst f.txt < n) (w : World) :
    Calls Tryd.prog 15 #[.int .i64 n, .string f.bytes] w fun e w' => e = .returned (.tuple #[.agg #[.int .i64 n, .int .i64 (sumN f.ev R : Int)], .int .i64 0]) ∧ Below w.heap.size w w' := by
  have hz : f.bytes.size ≤ 60 := by rw [f.bytes_size]; exact hsz
  have h : isFm f.bytes = true := isFm_iff.2 ⟨hz, f, wf, f.bytes_list⟩
  have I := Lib.hid (fun w => l05Is_is (by omega) h w)
  have M := Lib.hid (fun w => l05Most_any f.bytes (by omega) w)
  rw [f.bytes_list] at M
  have FF := Lib.hid (fun w => l05Func_any ok 60 f wf hsz (by decide) w)
  obtain ⟨m, hm⟩ : ∃ m, mst f.txt = m := ⟨_, rfl⟩
  rw [hm] at M hn
  have b : decide (n ≤ m) = false := by simp; omega
  have h1 : inB n 0 4 = true := by have := ok.h0; have := ok.h4; simp [inB]; omega
  have N := Lib.hid (fun w => l01In_is h1 w)
  clear hn hm h h1
  generalize f.bytes = T at *
  obtain ⟨W1, hW1⟩ : ∃ W1, w.alloc (.cells #[.int .i64 0, .int .i64 0] 24) = W1 := ⟨_, rfl⟩
  have hb1 : Below w.heap.size w W1 := by rw [← hW1]; exact bnew _ _
  have c0 : W1.cell? ⟨w.heap.size, 0, none⟩ = some (.int .i64 0) := by rw [← hW1]; simp [go_sem]
  have c1 : W1.cell? ⟨w.heap.size, 1, none⟩ = some (.int .i64 0) := by rw [← hW1]; simp [go_sem]
  have f0 : W1.frozen? ⟨w.heap.size, 0, none⟩ = false := by rw [← hW1]; simp [go_sem]
  have f1 : W1.frozen? ⟨w.heap.size, 1, none⟩ = false := by rw [← hW1]; simp [go_sem]
  go_enter Tryd.func15, Tryd.ntmps15
  go_wp2_with (first
      | (go_at_call 43; refine (I.out _).mono ?_; rintro e w' ⟨rfl, rfl⟩)
      | (go_at_call 45; refine (N.out _).mono ?_; rintro e w' ⟨rfl, rfl⟩)
      | (go_at_call 46; refine (M.out _).mono ?_; rintro e w' ⟨rfl, rfl⟩)
      | (go_at_call 47; refine (FF.out _).mono ?_; rintro e w2 ⟨rfl, hb2⟩; have d0 := kc hb2 c0; have d1 := kc hb2 c1; have g0 := kf hb2 c0 f0; have g1 := kf hb2 c1 f1; have HB2 := Lib.hid (bthen hb1 hb2)))
  exact bodyPost_ret (v := .tuple #[.agg #[.int .i64 n, .int .i64 (sumN f.ev R : Int)], .int .i64 0]) (by simp [results, Tryd.results15, go_sem, d0, d1]) rfl ⟨rfl, (HB2.out.setCell (p := ⟨w.heap.size, 0, none⟩) (Nat.le_refl _) _).setCell (p := ⟨w.heap.size, 1, none⟩) (Nat.le_refl _) _⟩
end Go.Proofs.YtleighihfgabkaaDoor
