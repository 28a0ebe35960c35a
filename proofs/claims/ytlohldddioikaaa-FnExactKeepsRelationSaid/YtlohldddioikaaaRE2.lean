/-
  The tuples of a relation as a list in the model; CountTuples in both packages.
-/
import Derived.Test.YtlohldddioikaaaRE1
import Derived.Test.YtlohldddioikaaaNM1
import Derived.Test.YtlohldddioikaaaS2
import Derived.Test.YtlohldddioikaaaL1
import Derived.Test.YtlohldddioikaaaG2
namespace Go.Proofs.Ytlohldddioikaaa
open Go.RowKit
set_option linter.unusedVariables false
set_option linter.unusedSimpArgs false

theorem owns_len {W : World} {base : Nat} {s : Value} {xs : List Int} {m : Nat} (h : Owns W base s xs) (hx : xs.length = m) : ∃ a cap, s = .slice a m cap := by
  rcases h.shape with ⟨e, a, cap, rfl⟩ | ⟨hn, g, cap, rfl, _⟩
  · rw [e] at hx; simp at hx; subst hx; exact ⟨_, _, rfl⟩
  · rw [hx]; exact ⟨_, _, rfl⟩

/-- Natural numbers as a list of numbers. -/
def nI (l : List Nat) : List Int := l.map fun (j : Nat) => (j : Int)
theorem nI_snoc (l : List Nat) (a : Nat) : nI (l ++ [a]) = nI l ++ [(a : Int)] := by simp [nI]
theorem nI_length (l : List Nat) : (nI l).length = l.length := by simp [nI]
theorem nI_get (l : List Nat) (j : Nat) (h : j < l.length) : (nI l)[j]?.getD 0 = (l[j]?.getD 0 : Nat) := by simp [nI, h]

set_option maxRecDepth 100000 in
set_option maxHeartbeats 2000000 in
theorem l06List_any {n : Int} {x R : Nat} (ok : FOk n x R) (w : World) :
    Calls Try.prog 57 #[.agg #[.int .i64 n, .int .i64 (x : Int)]] w (ListPost w.heap.size (nI (tupsL x R)) w) := by
  obtain ⟨i0, hi, hz0, hz1, hz2⟩ := info_parts infoI
  have r16 := ok.r16
  obtain ⟨W1, hW1⟩ : ∃ W1, w.alloc (.cells #[.int .i64 n, .int .i64 (x : Int)] 25) = W1 := ⟨_, rfl⟩
  have p0 : W1.cell? ⟨w.heap.size, 0, none⟩ = some (.int .i64 n) := by rw [← hW1]; simp [go_sem]
  have p1 : W1.cell? ⟨w.heap.size, 1, none⟩ = some (.int .i64 (x : Int)) := by rw [← hW1]; simp [go_sem]
  have hB : Below w.heap.size w W1 := by rw [← hW1]; exact bnew _ _
  have l0 : w.heap.size < W1.heap.size := cell_lt p0
  go_enter Try.func57, Try.ntmps57
  go_wp2
  clear hW1
  go_loopw [3, 4] (fun s i' wr => ∃ k : Nat, k ≤ R ∧ i' = .int .i64 k ∧ Owns wr W1.heap.size s (nI (tupsL x k)) ∧ Below W1.heap.size W1 wr)
    (fun _ i' _ => R - (intOf i').toNat)
  case atStart => exact ⟨0, Nat.zero_le _, rfl, World.ownsRow_lit W1 #[] 0 (Nat.le_refl _) (by decide) rfl, bnew _ _⟩
  case round =>
    obtain ⟨k, hk, rfl, hown, hN⟩ := hrel
    have hsz := hN.size
    have q0 := kc hN p0
    have q1 := kc hN p1
    by_cases hlt : k < R
    · have E := digit_eq x k ok.hx
      have hlen : (nI (tupsL x k)).length ≤ k := by rw [nI_length]; exact tupsL_len x k
      unfold Owns at hown
      by_cases hb : bitN x k = 1
      · have HS := Lib.hid (tupsL_yes x k hb)
        have ht : ((bitN x k : Int) == 1) = true := by simp [hb]
        clear hb
        go_wp2_with (first
          | (go_at_call 75; refine (l01Rows_is ok.h0 ok.h4 ok.hR _).mono ?_; rintro e w' ⟨rfl, rfl⟩)
          | (at_builtin; refine wpList_append_own _ rfl _ _ 61 rfl W1.heap.size 2 i0 (.int .i64 0) 1 8 Try.underlying61 hi hz0 hz1 hz2 rfl (by decide) _ _ _ rfl (hown.alloc _) ⟨wr.heap.size, 0, none⟩ 1 1 [.int .i64 (k : Int)] rfl rfl (cell_one_new _ _ _) (one_cell_int _) (by unfold maxLen; omega) (by omega) (by simp; omega) ?_))
        intro v' w1 hown' hgrow _
        have hN' := (balloc hN (.cells #[.int .i64 (k : Int)] 2)).grown hgrow (by simp; omega) (fun j e => (World.ownsRow.lt hown j e).1)
        clear hgrow hown hN E
        go_wp2
        go_roundw
        case rel => exact ⟨k + 1, by omega, by go_num, by rw [HS.out, nI_snoc]; unfold Owns; rw [ints_snoc, List.length_append]; exact hown', hN'⟩
        case measure => simp [intOf]; omega
      · have HS := Lib.hid (tupsL_no x k hb)
        have ht : ((bitN x k : Int) == 1) = false := by simp; omega
        clear hb
        go_wp2_with (first
          | (go_at_call 75; refine (l01Rows_is ok.h0 ok.h4 ok.hR _).mono ?_; rintro e w' ⟨rfl, rfl⟩))
        go_roundw
        case rel => exact ⟨k + 1, by omega, by go_num, by rw [HS.out]; exact hown, hN⟩
        case measure => simp [intOf]; omega
    · obtain rfl : k = R := by omega
      have ho := Lib.hid (hown.mono hB.size)
      have hBN := bthen hB hN
      clear hown hN
      go_wp2_with (first
        | (go_at_call 75; refine (l01Rows_is ok.h0 ok.h4 ok.hR _).mono ?_; rintro e w' ⟨rfl, rfl⟩))
      go_ret
      exact ⟨_, rfl, ho.out, hBN⟩

theorem tups_ones (x k : Nat) : (tupsL x k).length = ones x k := by
  induction k with
  | zero => rfl
  | succ k ih =>
    by_cases h : bitN x k = 1
    · rw [tupsL_yes x k h, List.length_append, ih]; simp [ones, h]
    · have h0 : bitN x k = 0 := by have := bitN_le x k; omega
      rw [tupsL_no x k h, ih]; simp [ones, h0]

set_option maxRecDepth 100000 in
set_option maxHeartbeats 2000000 in
theorem implCountTuples_no {n b : Int} (h : isR n b = false) (w : World) :
    Calls Try.prog 19 #[.agg #[.int .i64 n, .int .i64 b]] w fun e w' => e = .returned (.tuple #[.int .i64 0, .int .i64 1]) ∧ Below w.heap.size w w' := by
  go_enter Try.func19, Try.ntmps19
  go_wp2_with (first
    | (go_at_call 17; refine (IsRelation_is h _).mono ?_; rintro e w2 ⟨rfl, hb2⟩))
  go_ret2
  exact ⟨rfl, bthen (bnew _ _) hb2⟩

set_option maxRecDepth 100000 in
set_option maxHeartbeats 2000000 in
theorem specCountTuples_no {n b : Int} (h : isR n b = false) (w : World) :
    Calls Try.prog 18 #[.agg #[.int .i64 n, .int .i64 b]] w fun e w' => e = .returned (.tuple #[.int .i64 0, .int .i64 1]) ∧ Below w.heap.size w w' := by
  go_enter Try.func18, Try.ntmps18
  go_wp2_with (first
    | (go_at_call 55; refine (l06Is_is h _).mono ?_; rintro e w2 ⟨rfl, hb2⟩))
  go_ret2
  exact ⟨rfl, bthen (bnew _ _) hb2⟩

set_option maxRecDepth 100000 in
set_option maxHeartbeats 2000000 in
theorem implCountTuples_yes {n : Int} {x R : Nat} (ok : ROk n x R) (w : World) :
    Calls Try.prog 19 #[.agg #[.int .i64 n, .int .i64 (x : Int)]] w fun e w' => e = .returned (.tuple #[.int .i64 (ones x R : Int), .int .i64 0]) ∧ Below w.heap.size w w' := by
  have h := ok.is
  have hx16 : x < 65536 := by
    have h1 := ok.hB
    have h2 : (2 : Nat) ^ R ≤ 2 ^ 16 := Nat.pow_le_pow_right (by decide) ok.r16
    omega
  rw [← ok.toFOk.ones]
  obtain ⟨W1, hW1⟩ : ∃ W1, w.alloc (.cells #[.int .i64 n, .int .i64 (x : Int)] 25) = W1 := ⟨_, rfl⟩
  have p0 : W1.cell? ⟨w.heap.size, 0, none⟩ = some (.int .i64 n) := by rw [← hW1]; simp [go_sem]
  have p1 : W1.cell? ⟨w.heap.size, 1, none⟩ = some (.int .i64 (x : Int)) := by rw [← hW1]; simp [go_sem]
  have hB : Below w.heap.size w W1 := by rw [← hW1]; exact bnew _ _
  have eu : IntKind.u64.wrap (x : Int) = (x : Int) := by simp [IntKind.wrap, IntKind.bits, IntKind.signed]; omega
  go_enter Try.func19, Try.ntmps19
  go_wp2_with (first
    | (go_at_call 17; refine (IsRelation_is h _).mono ?_; rintro e w2 ⟨rfl, hb2⟩; have q0 := kc hb2 p0; have q1 := kc hb2 p1; have hB2 := bthen hB hb2; clear p0 p1)
    | (go_at_call 58; refine (onesCount_any x hx16 _).mono ?_; rintro e w' ⟨rfl, rfl⟩))
  go_ret2
  exact ⟨rfl, hB2⟩

set_option maxRecDepth 100000 in
set_option maxHeartbeats 2000000 in
theorem specCountTuples_yes {n : Int} {x R : Nat} (ok : ROk n x R) (w : World) :
    Calls Try.prog 18 #[.agg #[.int .i64 n, .int .i64 (x : Int)]] w fun e w' => e = .returned (.tuple #[.int .i64 (ones x R : Int), .int .i64 0]) ∧ Below w.heap.size w w' := by
  have h := ok.is
  obtain ⟨W1, hW1⟩ : ∃ W1, w.alloc (.cells #[.int .i64 n, .int .i64 (x : Int)] 25) = W1 := ⟨_, rfl⟩
  have p0 : W1.cell? ⟨w.heap.size, 0, none⟩ = some (.int .i64 n) := by rw [← hW1]; simp [go_sem]
  have p1 : W1.cell? ⟨w.heap.size, 1, none⟩ = some (.int .i64 (x : Int)) := by rw [← hW1]; simp [go_sem]
  have hB : Below w.heap.size w W1 := by rw [← hW1]; exact bnew _ _
  have HL := Lib.hid (tups_ones x R)
  go_enter Try.func18, Try.ntmps18
  go_wp2_with fail
  clear hW1
  refine (l06Is_is h _).mono ?_
  rintro e w2 ⟨rfl, hb2⟩
  have q0 := kc hb2 p0
  have q1 := kc hb2 p1
  have hB2 := bthen hB hb2
  clear p0 p1
  go_wp2_with fail
  refine (l06List_any ok.toFOk _).mono ?_
  rintro e w3 ⟨s, rfl, ho, hb3⟩
  have hB3 := bthen hB2 hb3
  have hlen : (nI (tupsL x R)).length = ones x R := by rw [nI_length]; exact HL.out
  obtain ⟨a, cap, rfl⟩ := owns_len ho hlen
  clear ho hlen
  go_wp2
  go_ret2
  exact ⟨rfl, hB3⟩

theorem bothCountTuples (n b : Int) : ∃ ra rc : Int,
    (∀ w, Calls Try.prog 18 #[.agg #[.int .i64 n, .int .i64 b]] w fun e w' => e = .returned (.tuple #[.int .i64 ra, .int .i64 rc]) ∧ Below w.heap.size w w') ∧
    (∀ w, Calls Try.prog 19 #[.agg #[.int .i64 n, .int .i64 b]] w fun e w' => e = .returned (.tuple #[.int .i64 ra, .int .i64 rc]) ∧ Below w.heap.size w w') := by
  cases h : isR n b
  · exact ⟨_, _, specCountTuples_no h, implCountTuples_no h⟩
  · obtain ⟨x, R, rfl, ok⟩ := rok h
    exact ⟨_, _, specCountTuples_yes ok, implCountTuples_yes ok⟩
end Go.Proofs.Ytlohldddioikaaa
