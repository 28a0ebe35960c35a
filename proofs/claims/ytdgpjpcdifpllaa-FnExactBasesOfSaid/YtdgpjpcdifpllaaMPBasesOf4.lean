/-
  The texts C2, L3, L4, M4, TU2, RE1, NM1, G1, G2, RE2, CP1, NX1, Z1, Z3 in one.
-/
import Derived.Test.YtdgpjpcdifpllaaMPBasesOf3
import Derived.Lib.AppendZeros
import Derived.Maps.AppendAt
import Derived.RangeFuncNested

/- C2:
  ConstantOf in both packages. -/
namespace Go.Proofs.Ytdgpjpcdifpllaa
open Go.RowKit

set_option maxHeartbeats 400000 in
theorem isDigit_any (v : Int) (w : World) :
    Calls Try.prog 165 #[.int .i64 v] w fun e w' => e = .returned (.bool (inB v 0 1)) ∧ w = w' := by
  by_cases h1 : v = 0
  · subst h1
    rw [inB_true (by omega) (by omega)]
    go_enter Try.func165, Try.ntmps165
    go_wp2
    go_ret
    exact ⟨rfl, rfl⟩
  · have e0 : (v == 0) = false := by simp [h1]
    by_cases h2 : v = 1
    · subst h2
      rw [inB_true (by omega) (by omega)]
      go_enter Try.func165, Try.ntmps165
      go_wp2
      go_ret
      exact ⟨rfl, rfl⟩
    · have e1 : (v == 1) = false := by simp [h2]
      rw [inB_false (by omega)]
      go_enter Try.func165, Try.ntmps165
      go_wp2
      go_ret
      exact ⟨rfl, rfl⟩
theorem isDigit_is {v : Int} {x : Bool} (h : inB v 0 1 = x) (w : World) :
    Calls Try.prog 165 #[.int .i64 v] w fun e w' => e = .returned (.bool x) ∧ w = w' := h ▸ isDigit_any v w

set_option maxHeartbeats 400000 in
theorem Constant1_any (b r : Nat) (v : Int) (w : World) (hc : w.cell? ⟨b, 0, none⟩ = some (.int .i64 v)) :
    Calls Try.prog 272 #[.int .i64 (r : Int), .pointer (some ⟨b, 0, none⟩)] w fun e w' => e = .returned (.int .i64 v) ∧ Below w.heap.size w w' := by
  go_enter Try.func272, Try.ntmps272
  go_wp2
  go_ret
  exact ⟨rfl, Below.refl _ _⟩

set_option maxRecDepth 100000 in
set_option maxHeartbeats 1000000 in
theorem implConstantOf_yes {n : Int} {R : Nat} (h0 : 0 ≤ n) (h4 : n ≤ 4) (r0 : 0 < R) (r16 : R ≤ 16) (hR : Hid (rowsN n = (R : Int))) (he : R = 2 ^ n.toNat) (v : Nat) (hv : v ≤ 1) (w : World) :
    Calls Try.prog 245 #[.int .i64 n, .int .i64 (v : Int)] w fun e w' => e = .returned (.tuple #[.agg #[.int .i64 n, .int .i64 (v * allN n)], .int .i64 0]) ∧ Below w.heap.size w w' := by
  have H1 : inB n 0 4 = true := inB_true (by omega) h4
  have H2 : inB (v : Int) 0 1 = true := inB_true (by omega) (by omega)
  obtain ⟨W1, hW1⟩ : ∃ W1, (w.alloc (.cells #[.int .i64 (v : Int)] 2)).alloc (.cells #[.int .i64 0, .int .i64 0] 23) = W1 := ⟨_, rfl⟩
  have cI : W1.cell? ⟨w.heap.size, 0, none⟩ = some (.int .i64 (v : Int)) := by rw [← hW1]; simp [go_sem]
  have c0 : W1.cell? ⟨w.heap.size + 1, 0, none⟩ = some (.int .i64 0) := by rw [← hW1]; simp [go_sem]
  have c1 : W1.cell? ⟨w.heap.size + 1, 1, none⟩ = some (.int .i64 0) := by rw [← hW1]; simp [go_sem]
  have f0 : W1.frozen? ⟨w.heap.size + 1, 0, none⟩ = false := by rw [← hW1]; simp [go_sem]
  have f1 : W1.frozen? ⟨w.heap.size + 1, 1, none⟩ = false := by rw [← hW1]; simp [go_sem]
  have hB : Below w.heap.size w W1 := by rw [← hW1]; exact balloc (bnew _ _) _
  have F := Lib.hid (funcByRows_any n (by omega) h4 R r0 r16 hR 272 #[.pointer (some ⟨w.heap.size, 0, none⟩)] (enters_of Try.func272 (by kernel_rfl) rfl)
    (fun _ => v) (fun _ _ => hv) W1 (Lib.hid fun W hW r _ => Constant1_any w.heap.size r v W (kc hW cI)))
  rw [orBits_sum r0 _ (fun _ _ => hv), sum_const he hv] at F
  clear he
  go_enter Try.func245, Try.ntmps245
  go_wp2_with (first
    | (go_at_call 143; refine (isArity_is H1 _).mono ?_; rintro e w' ⟨rfl, rfl⟩)
    | (go_at_call 165; refine (isDigit_is H2 _).mono ?_; rintro e w' ⟨rfl, rfl⟩)
    | (go_at_call 189; refine F.out.mono ?_; rintro e w3 ⟨rfl, hb3⟩; have e0 := kc hb3 c0; have e1 := kc hb3 c1; have k0 := kf hb3 c0 f0; have k1 := kf hb3 c1 f1; have hB3 := bthen hB hb3))
  exact bodyPost_ret (v := .tuple #[.agg #[.int .i64 n, .int .i64 (v * allN n)], .int .i64 0]) (by simp [results, Try.results245, go_sem, e0, e1]) rfl ⟨rfl, (hB3.setCell (p := ⟨w.heap.size + 1, 0, none⟩) (by simp) _).setCell (p := ⟨w.heap.size + 1, 1, none⟩) (by simp) _⟩

set_option maxRecDepth 100000 in
set_option maxHeartbeats 1000000 in
theorem implConstantOf_no {n i : Int} (h : ¬ (0 ≤ n ∧ n ≤ 4 ∧ 0 ≤ i ∧ i ≤ 1)) (w : World) :
    Calls Try.prog 245 #[.int .i64 n, .int .i64 i] w fun e w' => e = .returned (.tuple #[.agg #[.int .i64 0, .int .i64 0], .int .i64 2]) ∧ Below w.heap.size w w' := by
  have hB := balloc (bnew w (.cells #[.int .i64 i] 2)) (.cells #[.int .i64 0, .int .i64 0] 23)
  generalize h1 : inB n 0 4 = x
  cases x
  · go_enter Try.func245, Try.ntmps245
    go_wp2_with (first
      | (go_at_call 143; refine (isArity_is h1 _).mono ?_; rintro e w' ⟨rfl, rfl⟩))
    exact bodyPost_ret (v := .tuple #[.agg #[.int .i64 0, .int .i64 0], .int .i64 2]) (by simp [results, Try.results245, go_sem]) rfl ⟨rfl, hB⟩
  · have h2 : inB i 0 1 = false := inB_false (by simp [inB] at h1; omega)
    go_enter Try.func245, Try.ntmps245
    go_wp2_with (first
      | (go_at_call 143; refine (isArity_is h1 _).mono ?_; rintro e w' ⟨rfl, rfl⟩)
      | (go_at_call 165; refine (isDigit_is h2 _).mono ?_; rintro e w' ⟨rfl, rfl⟩))
    exact bodyPost_ret (v := .tuple #[.agg #[.int .i64 0, .int .i64 0], .int .i64 2]) (by simp [results, Try.results245, go_sem]) rfl ⟨rfl, hB⟩

set_option maxRecDepth 100000 in
set_option maxHeartbeats 1000000 in
theorem l01Constant_any {n : Int} (h0 : 0 ≤ n) (h4 : n ≤ 4) (v : Nat) (hv : v ≤ 1) (w : World) :
    Calls Try.prog 198 #[.int .i64 n, .int .i64 (v : Int)] w fun e w' => e = .returned (.agg #[.int .i64 n, .int .i64 (v * allN n)]) ∧ Below w.heap.size w w' := by
  obtain ⟨ha, hb⟩ := allN_bd h0 h4
  have hB := bnew w (.cells #[.int .i64 0, .int .i64 0] 23)
  have hm : wrap64 (v * allN n) = v * allN n := by
    rcases (show v = 0 ∨ v = 1 by omega) with rfl | rfl <;> exact IntWalk.wrap64_in _ ⟨by omega, by omega⟩
  go_enter Try.func198, Try.ntmps198
  go_wp2_with (go_at_call 85; refine (l01All_any _ h0 h4 _).mono ?_; rintro e w' ⟨rfl, rfl⟩)
  exact bodyPost_ret (v := .agg #[.int .i64 n, .int .i64 (v * allN n)]) (by simp [results, Try.results198, go_sem]) rfl ⟨rfl, bnew _ _⟩

end Go.Proofs.Ytdgpjpcdifpllaa

/- L3:
  Lists of digits, and rows of arguments. -/
namespace Go.Proofs.Ytdgpjpcdifpllaa
open Go.RowKit

set_option maxRecDepth 100000 in
set_option maxHeartbeats 1000000 in
theorem areDigits_any {base : Nat} {s : Value} {xs : List Int} (hl : xs.length ≤ 1048576) (w : World) (h : Owns w base s xs) :
    Calls Try.prog 187 #[s] w fun e w' => e = .returned (.bool (xs.all fun v => inB v 0 1)) ∧ w = w' := by
  rcases h.shape with ⟨rfl, a, cap, rfl⟩ | ⟨hn, g, cap, rfl, hbg, hg, hc, hf⟩
  · go_enter Try.func187, Try.ntmps187
    go_wp2
    refine wp_loop_rounds 1 ?_
    rw [rounds_succ]
    go_wp2
    go_ret
    exact ⟨rfl, rfl⟩
  · clear h hf
    have hall : ∀ k, k ≤ xs.length → (∀ j, j < k → inB (xs[j]?.getD 0) 0 1 = true) → (k = xs.length → (xs.all fun v => inB v 0 1) = true) := by
      intro k _ h1 h2
      rw [List.all_eq_true]
      intro v hv
      obtain ⟨j, hj, rfl⟩ := List.mem_iff_getElem.1 hv
      have := h1 j (by omega)
      rwa [List.getElem?_eq_getElem hj] at this
    have hnot : ∀ k, k < xs.length → inB (xs[k]?.getD 0) 0 1 = false → (xs.all fun v => inB v 0 1) = false := by
      intro k hk h1
      rw [List.all_eq_false]
      exact ⟨xs[k], List.getElem_mem hk, by rw [List.getElem?_eq_getElem hk] at h1; simpa using h1⟩
    generalize hA : (xs.all fun v => inB v 0 1) = A at hall hnot ⊢
    have HALL := Lib.hid hall
    have HNOT := Lib.hid hnot
    clear hall hnot hA
    generalize xs.length = n at hl hn hc HALL HNOT ⊢
    go_enter Try.func187, Try.ntmps187
    go_wp2
    go_loop [7] (fun i' => ∃ i : Nat, i ≤ n ∧ i' = .int .i64 i ∧ Hid (∀ j, j < i → inB (xs[j]?.getD 0) 0 1 = true)) (fun i' => n - (intOf i').toNat)
    case atStart => exact ⟨0, Nat.zero_le _, rfl, Lib.hid (fun j hj => by omega)⟩
    case round =>
      obtain ⟨i, hi, rfl, HI⟩ := hrel
      by_cases hlt : i < n
      · have hu := hc.out i hlt
        cases hb : inB (xs[i]?.getD 0) 0 1
        · have hA := Lib.hid (HNOT.out i hlt hb)
          go_wp2_with (go_at_call 165; refine (isDigit_is hb _).mono ?_; rintro e w' ⟨rfl, rfl⟩)
          go_ret
          exact ⟨by rw [hA.out]; rfl, rfl⟩
        · have HI2 : Hid (∀ j, j < i + 1 → inB (xs[j]?.getD 0) 0 1 = true) := Lib.hid (fun j hj => by
            by_cases hji : j = i
            · rw [hji]; exact hb
            · exact HI.out j (by omega))
          go_wp2_with (go_at_call 165; refine (isDigit_is hb _).mono ?_; rintro e w' ⟨rfl, rfl⟩)
          go_round
          case rel => exact ⟨i + 1, by omega, by go_num, HI2⟩
          case measure => simp [intOf]; omega
      · obtain rfl : i = n := by omega
        have hA := Lib.hid (HALL.out i (Nat.le_refl _) HI.out rfl)
        go_wp2
        go_ret
        exact ⟨by rw [hA.out]; rfl, rfl⟩

set_option maxRecDepth 100000 in
set_option maxHeartbeats 1000000 in
theorem l01Bits_any {base : Nat} {s : Value} {xs : List Int} (hl : xs.length ≤ 1048576) (w : World) (h : Owns w base s xs) :
    Calls Try.prog 248 #[s] w fun e w' => e = .returned (.bool (xs.all fun v => inB v 0 1)) ∧ w = w' := by
  rcases h.shape with ⟨rfl, a, cap, rfl⟩ | ⟨hn, g, cap, rfl, hbg, hg, hc, hf⟩
  · go_enter Try.func248, Try.ntmps248
    go_wp2
    refine wp_loop_rounds 1 ?_
    rw [rounds_succ]
    go_wp2
    go_ret
    exact ⟨rfl, rfl⟩
  · clear h hf
    have hall : ∀ k, k ≤ xs.length → (∀ j, j < k → inB (xs[j]?.getD 0) 0 1 = true) → (k = xs.length → (xs.all fun v => inB v 0 1) = true) := by
      intro k _ h1 h2
      rw [List.all_eq_true]
      intro v hv
      obtain ⟨j, hj, rfl⟩ := List.mem_iff_getElem.1 hv
      have := h1 j (by omega)
      rwa [List.getElem?_eq_getElem hj] at this
    have hnot : ∀ k, k < xs.length → inB (xs[k]?.getD 0) 0 1 = false → (xs.all fun v => inB v 0 1) = false := by
      intro k hk h1
      rw [List.all_eq_false]
      exact ⟨xs[k], List.getElem_mem hk, by rw [List.getElem?_eq_getElem hk] at h1; simpa using h1⟩
    generalize hA : (xs.all fun v => inB v 0 1) = A at hall hnot ⊢
    have HALL := Lib.hid hall
    have HNOT := Lib.hid hnot
    clear hall hnot hA
    generalize xs.length = n at hl hn hc HALL HNOT ⊢
    go_enter Try.func248, Try.ntmps248
    go_wp2
    go_loop [3] (fun i' => ∃ i : Nat, i ≤ n ∧ i' = .int .i64 i ∧ Hid (∀ j, j < i → inB (xs[j]?.getD 0) 0 1 = true)) (fun i' => n - (intOf i').toNat)
    case atStart => exact ⟨0, Nat.zero_le _, rfl, Lib.hid (fun j hj => by omega)⟩
    case round =>
      obtain ⟨i, hi, rfl, HI⟩ := hrel
      by_cases hlt : i < n
      · have hu := hc.out i hlt
        cases hb : inB (xs[i]?.getD 0) 0 1
        · have hA := Lib.hid (HNOT.out i hlt hb)
          go_wp2_with (go_at_call 84; refine (l01In_is hb _).mono ?_; rintro e w' ⟨rfl, rfl⟩)
          go_ret
          exact ⟨by rw [hA.out]; rfl, rfl⟩
        · have HI2 : Hid (∀ j, j < i + 1 → inB (xs[j]?.getD 0) 0 1 = true) := Lib.hid (fun j hj => by
            by_cases hji : j = i
            · rw [hji]; exact hb
            · exact HI.out j (by omega))
          go_wp2_with (go_at_call 84; refine (l01In_is hb _).mono ?_; rintro e w' ⟨rfl, rfl⟩)
          go_round
          case rel => exact ⟨i + 1, by omega, by go_num, HI2⟩
          case measure => simp [intOf]; omega
      · obtain rfl : i = n := by omega
        have hA := Lib.hid (HALL.out i (Nat.le_refl _) HI.out rfl)
        go_wp2
        go_ret
        exact ⟨by rw [hA.out]; rfl, rfl⟩
end Go.Proofs.Ytdgpjpcdifpllaa

/- L4:
  Rows of arguments, in both packages. -/
namespace Go.Proofs.Ytdgpjpcdifpllaa
open Go.RowKit

theorem w64 (x : Int) : wrap64 x = IntKind.i64.wrap x := by
  simp [wrap64, IntKind.wrap, IntKind.bits, IntKind.signed]
  split <;> omega

theorem or_sum (v : Nat → Nat) (k : Nat) (hk : k < 16) (hv : ∀ r, r < k + 1 → v r ≤ 1) : bits .or .i64 (sumN v k : Int) (wrap64 ((v k : Int) * 2 ^ k)) = (sumN v (k + 1) : Int) := by
  rw [w64]
  have h := sumN_lt v k (fun r hr => hv r (by omega))
  have h2 : (2 : Nat) ^ k ≤ 2 ^ 16 := Nat.pow_le_pow_right (by decide) (by omega)
  rw [or_step _ _ _ (by omega) (hv k (by omega)) hk, Nat.or_comm, ← Nat.shiftLeft_add_eq_or_of_lt h, Nat.shiftLeft_eq, sumN, Nat.add_comm]

set_option maxRecDepth 100000 in
set_option maxHeartbeats 1000000 in
theorem rowWith_any (m : Nat) (hm : m ≤ 4) (g : Nat) (cap : Array Value) (eg : ∀ args w, (callFunc g args).run Try.prog w = .ok (.enter g args) w) (v : Nat → Nat) (hv : ∀ i, i < m → v i ≤ 1) (w : World)
    (hval : Hid (∀ W, Below w.heap.size w W → ∀ i : Nat, i < m → Calls Try.prog g (#[.int .i64 (i : Int)] ++ cap) W fun e W' => e = .returned (.int .i64 (v i : Int)) ∧ Below W.heap.size W W')) :
    Calls Try.prog 153 #[.int .i64 (m : Int), .func (.func g) #[] cap] w fun e w' => e = .returned (.int .i64 (sumN v m : Int)) ∧ Below w.heap.size w w' := by
  go_enter Try.func153, Try.ntmps153
  go_wp2
  go_loopw [5, 8] (fun q i' wr => ∃ i : Nat, i ≤ m ∧ i' = .int .i64 i ∧ q = .int .i64 (sumN v i : Int) ∧ Below w.heap.size w wr) (fun _ i' _ => m - (intOf i').toNat)
  case atStart => exact ⟨0, Nat.zero_le _, rfl, rfl, Below.refl _ _⟩
  case round =>
    obtain ⟨i, hi, rfl, rfl, hB⟩ := hrel
    by_cases hlt : i < m
    · have HO := Lib.hid (or_sum v i (by omega) (fun r hr => hv r (by omega)))
      go_wp2_with fail
      refine (hval.out _ hB i hlt).mono ?_
      rintro e w' ⟨rfl, hb⟩
      have hB' := bthen hB hb
      go_wp2
      go_roundw
      case rel => exact ⟨i + 1, by omega, by go_num, by rw [HO.out], hB'⟩
      case measure => simp [intOf]; omega
    · obtain rfl : i = m := by omega
      go_wp2
      go_ret
      exact ⟨rfl, hB⟩

/-- The digits of a list. -/
def dig (xs : List Int) (i : Nat) : Nat := (xs[i]?.getD 0).toNat
theorem dig_ok {xs : List Int} (h : (xs.all fun v => inB v 0 1) = true) (i : Nat) (hi : i < xs.length) : dig xs i ≤ 1 ∧ xs[i]?.getD 0 = (dig xs i : Int) := by
  have := List.all_eq_true.1 h xs[i] (List.getElem_mem hi)
  have h2 : 0 ≤ xs[i] ∧ xs[i] ≤ 1 := by simpa [inB] using this
  unfold dig
  rw [List.getElem?_eq_getElem hi]
  exact ⟨by simp; omega, by simp; omega⟩

theorem sum_fin' (v : Nat → Nat) (k : Nat) (hk : k < 16) (hv : ∀ r, r < k + 1 → v r ≤ 1) : wrap64 ((sumN v k : Int) + wrap64 ((v k : Int) * 2 ^ k)) = (sumN v (k + 1) : Int) := by
  rw [w64, w64]
  obtain ⟨s1, s2, s3, _⟩ := sum_step v k hk hv
  rw [s1, s2]
  exact wrap64_small (by omega) (by omega)

end Go.Proofs.Ytdgpjpcdifpllaa

/- M4:
  Appending a function to a list of functions. -/
namespace Go.Proofs.Ytdgpjpcdifpllaa
open Go.RowKit

theorem cell_two_new (W : World) (a b : Value) (t : TypeId) : ∀ (j : Nat) (u : Value), [a, b][j]? = some u → (W.alloc (.cells #[a, b] t)).cell? ((⟨W.heap.size, 0, none⟩ : Addr).add j) = some u := by
  intro j u h
  match j, h with
  | 0, h => simp at h; subst h; simp [go_sem, Addr.add]
  | 1, h => simp at h; subst h; simp [go_sem, Addr.add]
theorem one_cell_two (n x : Int) : ∀ u ∈ [Value.int .i64 n, Value.int .i64 x], u.oneCell' = true := by
  intro u hu
  simp at hu
  rcases hu with rfl | rfl <;> rfl
theorem OwnsF.snoc {W : World} {base : Nat} {s : Value} {xs : List (Int × Int)} {n x : Int} (h : W.ownsRow base 23 2 s (xs.length + 1) (fcells xs ++ [.int .i64 n, .int .i64 x])) : OwnsF W base s (xs ++ [(n, x)]) := by
  unfold OwnsF
  rw [fcells_snoc, List.length_append]
  exact h
end Go.Proofs.Ytdgpjpcdifpllaa

/- TU2:
  slices.Grow of a nil list of numbers, slices.Concat of two and of three lists of numbers. -/

namespace Go.Proofs.Ytdgpjpcdifpllaa
open Go.RowKit
set_option linter.unusedVariables false
set_option linter.unusedSimpArgs false

set_option maxRecDepth 100000 in
set_option maxHeartbeats 2000000 in
theorem growI_zero (w : World) :
    Calls Try.prog 152 #[.slice none 0 0, .int .i64 0] w fun e w' => e = .returned (.slice none 0 0) ∧ w = w' := by
  go_enter Try.func152, Try.ntmps152
  go_wp2
  go_ret
  exact ⟨rfl, rfl⟩

set_option maxRecDepth 100000 in
set_option maxHeartbeats 2000000 in
theorem growI_some (n : Nat) (h0 : 0 < n) (h8 : n ≤ 8) (w : World) :
    Calls Try.prog 152 #[.slice none 0 0, .int .i64 (n : Int)] w fun e w' => ∃ cap, e = .returned (.slice (some ⟨w.heap.size, 0, none⟩) 0 cap) ∧ w'.ownsRow w.heap.size 2 1 (.slice (some ⟨w.heap.size, 0, none⟩) 0 cap) 0 [] ∧ Below w.heap.size w w' := by
  obtain ⟨i0, hi, hz0, hz1, hz2⟩ := info_parts infoI
  have hrz : ∀ ty, _ := fun ty => Lib.run_append_nil_zeros w 55 3 ty 2 i0 (.int .i64 0) .i64 .i64 Try.underlying55 Try.underlying3 hi hz0 n h0 (by omega) (by omega) (by rw [hz2]; omega)
  have hge := grownCap_ge w n 0 2
  have hle := grownCap_le_maxLen w n 0 2 (by unfold maxLen; omega)
  generalize grownCap w n 0 2 = G at hrz hge hle
  have hn0 : (0 : Int) < (n : Int) := by omega
  have hG63 : G ≤ 9223372036854775807 := by unfold maxLen at hle; omega
  have HL := Lib.hid hle
  clear hle
  go_enter Try.func152, Try.ntmps152
  go_wp2_with (at_builtin; refine Lib.wpList_append_run _ rfl _ _ _ _ rfl _ _ rfl rfl _ _ (hrz _) ?_)
  go_ret
  refine ⟨_, rfl, ⟨rfl, .inr ⟨w.heap.size, G, _, rfl, Nat.le_refl _, heap_alloc_new _ _, Nat.zero_le _, HL.out, ?_, by simp⟩⟩, ?_⟩
  · rw [Array.size_append, size_zeroCells, size_zeroCells]
    show n * 1 + (G - n) * 1 = G * 1
    omega
  · exact (Below.refl _ _).drew.alloc (Nat.le_refl _) _

theorem growI_any (n : Nat) (h8 : n ≤ 8) (w : World) :
    Calls Try.prog 152 #[.slice none 0 0, .int .i64 (n : Int)] w fun e w' => ∃ v, e = .returned v ∧ w'.ownsRow w.heap.size 2 1 v 0 [] ∧ Below w.heap.size w w' := by
  by_cases h0 : n = 0
  · subst h0
    refine (growI_zero w).mono ?_
    rintro e w' ⟨rfl, rfl⟩
    exact ⟨_, rfl, World.ownsRow_nil _ _ _ _, Below.refl _ _⟩
  · refine (growI_some n (by omega) h8 w).mono ?_
    rintro e w' ⟨cap, rfl, h1, h2⟩
    exact ⟨_, rfl, h1, h2⟩

theorem ints_append (xs ys : List Int) : ints (xs ++ ys) = ints xs ++ ints ys := by simp [ints]
theorem ints_length' (xs : List Int) : (ints xs).length = xs.length * 1 := by simp [ints]


set_option maxRecDepth 100000 in
set_option maxHeartbeats 4000000 in
theorem concatI2 (q : Nat) (ad1 ad2 : Addr) (c1 c2 : Nat) (ys1 ys2 : List Int) (h8 : ys1.length + ys2.length ≤ 8) (w : World)
    (hq1 : w.cell? ⟨q, 0, none⟩ = some (.slice (some ad1) ys1.length c1)) (hq2 : w.cell? ⟨q, 1, none⟩ = some (.slice (some ad2) ys2.length c2))
    (H1 : Hid (∀ (j : Nat) (u : Value), (ints ys1)[j]? = some u → w.cell? (ad1.add j) = some u)) (H2 : Hid (∀ (j : Nat) (u : Value), (ints ys2)[j]? = some u → w.cell? (ad2.add j) = some u)) :
    Calls Try.prog 96 #[.slice (some ⟨q, 0, none⟩) 2 2] w fun e w' => ∃ v, e = .returned v ∧ Owns w' w.heap.size v (ys1 ++ ys2) ∧ Below w.heap.size w w' := by
  obtain ⟨i0, hi, hz0, hz1, hz2⟩ := info_parts infoI
  have L1 := Lib.hid (ints_length' ys1)
  have O1 := Lib.hid (ints_one ys1)
  obtain ⟨m1, hm1⟩ : ∃ m, ys1.length = m := ⟨_, rfl⟩
  rw [hm1] at L1 hq1 h8
  have HM1 := Lib.hid hm1
  clear hm1
  have L2 := Lib.hid (ints_length' ys2)
  have O2 := Lib.hid (ints_one ys2)
  obtain ⟨m2, hm2⟩ : ∃ m, ys2.length = m := ⟨_, rfl⟩
  rw [hm2] at L2 hq2 h8
  have HM2 := Lib.hid hm2
  clear hm2
  have GR := Lib.hid fun W => (by have := growI_any (m1 + m2) h8 W; rwa [Int.natCast_add] at this : Calls Try.prog 152 #[.slice none 0 0, .int .i64 ((m1 : Int) + (m2 : Int))] W fun e w' => ∃ v, e = .returned v ∧ w'.ownsRow W.heap.size 2 1 v 0 [] ∧ Below W.heap.size W w')
  have hd1 : decide ((m1 : Int) < 0) = false := by simp
  have hd2 : decide ((m1 : Int) + (m2 : Int) < 0) = false := by simp; omega
  go_enter Try.func96, Try.ntmps96
  go_wp2_with fail
  refine wp_loop_rounds 3 ?_
  rw [rounds_succ]
  go_wp2_with fail
  rw [rounds_succ]
  go_wp2_with fail
  rw [rounds_succ]
  go_wp2_with fail
  refine (GR.out _).mono ?_
  rintro e w2 ⟨v, rfl, hown0, hB2⟩
  have q1 := kc hB2 hq1
  have G1 := Lib.hid (fun (j : Nat) (u : Value) (h : (ints ys1)[j]? = some u) => kc hB2 (H1.out j u h))
  have q2 := kc hB2 hq2
  have G2 := Lib.hid (fun (j : Nat) (u : Value) (h : (ints ys2)[j]? = some u) => kc hB2 (H2.out j u h))
  have hsz2 := hB2.size
  go_wp2_with fail
  refine wp_loop_rounds 3 ?_
  rw [rounds_succ]
  go_wp2_with (at_builtin; refine wpList_append_own _ rfl _ _ 55 rfl w.heap.size 2 i0 (.int .i64 0) 1 8 Try.underlying55 hi hz0 hz1 hz2 rfl (by decide) _ _ _ rfl hown0 ad1 m1 c1 (ints ys1) rfl L1.out G1.out O1.out (by unfold maxLen; omega) (by omega) hsz2 ?_)
  intro v1 w3 hown1 hgrow1 _
  have hB3 : Below w.heap.size w w3 := hB2.grown hgrow1 hsz2 (fun j e => (hown0.lt j e).1)
  have hsz3 := hB3.size
  have G2 := Lib.hid (fun (j : Nat) (u : Value) (h : (ints ys2)[j]? = some u) => kc hB3 (H2.out j u h))
  have q1 := kc hB3 hq1
  have q2 := kc hB3 hq2
  clear hown0 hgrow1
  go_wp2_with fail
  rw [rounds_succ]
  go_wp2_with (at_builtin; refine wpList_append_own _ rfl _ _ 55 rfl w.heap.size 2 i0 (.int .i64 0) 1 8 Try.underlying55 hi hz0 hz1 hz2 rfl (by decide) _ _ _ rfl hown1 ad2 m2 c2 (ints ys2) rfl L2.out G2.out O2.out (by unfold maxLen; omega) (by omega) hsz3 ?_)
  intro v2 w4 hown2 hgrow2 _
  have hB4 : Below w.heap.size w w4 := hB3.grown hgrow2 hsz3 (fun j e => (hown1.lt j e).1)
  have hsz4 := hB4.size
  have q1 := kc hB4 hq1
  have q2 := kc hB4 hq2
  clear hown1 hgrow2
  have HO := Lib.hid hown2
  clear hown2
  go_wp2_with fail
  rw [rounds_succ]
  go_wp2
  go_ret
  refine ⟨_, rfl, ?_, hB4⟩
  unfold Owns
  rw [ints_append, List.length_append, HM1.out, HM2.out]
  exact HO.out

set_option maxRecDepth 100000 in
set_option maxHeartbeats 4000000 in
theorem concatI3 (q : Nat) (ad1 ad2 ad3 : Addr) (c1 c2 c3 : Nat) (ys1 ys2 ys3 : List Int) (h8 : ys1.length + ys2.length + ys3.length ≤ 8) (w : World)
    (hq1 : w.cell? ⟨q, 0, none⟩ = some (.slice (some ad1) ys1.length c1)) (hq2 : w.cell? ⟨q, 1, none⟩ = some (.slice (some ad2) ys2.length c2)) (hq3 : w.cell? ⟨q, 2, none⟩ = some (.slice (some ad3) ys3.length c3))
    (H1 : Hid (∀ (j : Nat) (u : Value), (ints ys1)[j]? = some u → w.cell? (ad1.add j) = some u)) (H2 : Hid (∀ (j : Nat) (u : Value), (ints ys2)[j]? = some u → w.cell? (ad2.add j) = some u)) (H3 : Hid (∀ (j : Nat) (u : Value), (ints ys3)[j]? = some u → w.cell? (ad3.add j) = some u)) :
    Calls Try.prog 96 #[.slice (some ⟨q, 0, none⟩) 3 3] w fun e w' => ∃ v, e = .returned v ∧ Owns w' w.heap.size v (ys1 ++ ys2 ++ ys3) ∧ Below w.heap.size w w' := by
  obtain ⟨i0, hi, hz0, hz1, hz2⟩ := info_parts infoI
  have L1 := Lib.hid (ints_length' ys1)
  have O1 := Lib.hid (ints_one ys1)
  obtain ⟨m1, hm1⟩ : ∃ m, ys1.length = m := ⟨_, rfl⟩
  rw [hm1] at L1 hq1 h8
  have HM1 := Lib.hid hm1
  clear hm1
  have L2 := Lib.hid (ints_length' ys2)
  have O2 := Lib.hid (ints_one ys2)
  obtain ⟨m2, hm2⟩ : ∃ m, ys2.length = m := ⟨_, rfl⟩
  rw [hm2] at L2 hq2 h8
  have HM2 := Lib.hid hm2
  clear hm2
  have L3 := Lib.hid (ints_length' ys3)
  have O3 := Lib.hid (ints_one ys3)
  obtain ⟨m3, hm3⟩ : ∃ m, ys3.length = m := ⟨_, rfl⟩
  rw [hm3] at L3 hq3 h8
  have HM3 := Lib.hid hm3
  clear hm3
  have GR := Lib.hid fun W => (by have := growI_any (m1 + m2 + m3) h8 W; rwa [Int.natCast_add, Int.natCast_add] at this : Calls Try.prog 152 #[.slice none 0 0, .int .i64 ((m1 : Int) + (m2 : Int) + (m3 : Int))] W fun e w' => ∃ v, e = .returned v ∧ w'.ownsRow W.heap.size 2 1 v 0 [] ∧ Below W.heap.size W w')
  have hd1 : decide ((m1 : Int) < 0) = false := by simp
  have hd2 : decide ((m1 : Int) + (m2 : Int) < 0) = false := by simp; omega
  have hd3 : decide ((m1 : Int) + (m2 : Int) + (m3 : Int) < 0) = false := by simp; omega
  go_enter Try.func96, Try.ntmps96
  go_wp2_with fail
  refine wp_loop_rounds 4 ?_
  rw [rounds_succ]
  go_wp2_with fail
  rw [rounds_succ]
  go_wp2_with fail
  rw [rounds_succ]
  go_wp2_with fail
  rw [rounds_succ]
  go_wp2_with fail
  refine (GR.out _).mono ?_
  rintro e w2 ⟨v, rfl, hown0, hB2⟩
  have q1 := kc hB2 hq1
  have G1 := Lib.hid (fun (j : Nat) (u : Value) (h : (ints ys1)[j]? = some u) => kc hB2 (H1.out j u h))
  have q2 := kc hB2 hq2
  have G2 := Lib.hid (fun (j : Nat) (u : Value) (h : (ints ys2)[j]? = some u) => kc hB2 (H2.out j u h))
  have q3 := kc hB2 hq3
  have G3 := Lib.hid (fun (j : Nat) (u : Value) (h : (ints ys3)[j]? = some u) => kc hB2 (H3.out j u h))
  have hsz2 := hB2.size
  go_wp2_with fail
  refine wp_loop_rounds 4 ?_
  rw [rounds_succ]
  go_wp2_with (at_builtin; refine wpList_append_own _ rfl _ _ 55 rfl w.heap.size 2 i0 (.int .i64 0) 1 8 Try.underlying55 hi hz0 hz1 hz2 rfl (by decide) _ _ _ rfl hown0 ad1 m1 c1 (ints ys1) rfl L1.out G1.out O1.out (by unfold maxLen; omega) (by omega) hsz2 ?_)
  intro v1 w3 hown1 hgrow1 _
  have hB3 : Below w.heap.size w w3 := hB2.grown hgrow1 hsz2 (fun j e => (hown0.lt j e).1)
  have hsz3 := hB3.size
  have G2 := Lib.hid (fun (j : Nat) (u : Value) (h : (ints ys2)[j]? = some u) => kc hB3 (H2.out j u h))
  have G3 := Lib.hid (fun (j : Nat) (u : Value) (h : (ints ys3)[j]? = some u) => kc hB3 (H3.out j u h))
  have q1 := kc hB3 hq1
  have q2 := kc hB3 hq2
  have q3 := kc hB3 hq3
  clear hown0 hgrow1
  go_wp2_with fail
  rw [rounds_succ]
  go_wp2_with (at_builtin; refine wpList_append_own _ rfl _ _ 55 rfl w.heap.size 2 i0 (.int .i64 0) 1 8 Try.underlying55 hi hz0 hz1 hz2 rfl (by decide) _ _ _ rfl hown1 ad2 m2 c2 (ints ys2) rfl L2.out G2.out O2.out (by unfold maxLen; omega) (by omega) hsz3 ?_)
  intro v2 w4 hown2 hgrow2 _
  have hB4 : Below w.heap.size w w4 := hB3.grown hgrow2 hsz3 (fun j e => (hown1.lt j e).1)
  have hsz4 := hB4.size
  have G3 := Lib.hid (fun (j : Nat) (u : Value) (h : (ints ys3)[j]? = some u) => kc hB4 (H3.out j u h))
  have q1 := kc hB4 hq1
  have q2 := kc hB4 hq2
  have q3 := kc hB4 hq3
  clear hown1 hgrow2
  go_wp2_with fail
  rw [rounds_succ]
  go_wp2_with (at_builtin; refine wpList_append_own _ rfl _ _ 55 rfl w.heap.size 2 i0 (.int .i64 0) 1 8 Try.underlying55 hi hz0 hz1 hz2 rfl (by decide) _ _ _ rfl hown2 ad3 m3 c3 (ints ys3) rfl L3.out G3.out O3.out (by unfold maxLen; omega) (by omega) hsz4 ?_)
  intro v3 w5 hown3 hgrow3 _
  have hB5 : Below w.heap.size w w5 := hB4.grown hgrow3 hsz4 (fun j e => (hown2.lt j e).1)
  have hsz5 := hB5.size
  have q1 := kc hB5 hq1
  have q2 := kc hB5 hq2
  have q3 := kc hB5 hq3
  clear hown2 hgrow3
  have HO := Lib.hid hown3
  clear hown3
  go_wp2_with fail
  rw [rounds_succ]
  go_wp2
  go_ret
  refine ⟨_, rfl, ?_, hB5⟩
  unfold Owns
  rw [ints_append, ints_append, List.length_append, List.length_append, HM1.out, HM2.out, HM3.out, List.append_assoc]
  exact HO.out
end Go.Proofs.Ytdgpjpcdifpllaa

/- RE1:
  What is a relation, in both packages; the laws' small functions on relations. -/
namespace Go.Proofs.Ytdgpjpcdifpllaa
open Go.RowKit

/-- (n, b) is a relation. -/
def isR (n b : Int) : Bool := decide (1 ≤ n ∧ n ≤ 4 ∧ 0 ≤ b ∧ b ≤ allN n)
theorem isR_false {n b : Int} (h : ¬ (1 ≤ n ∧ n ≤ 4 ∧ 0 ≤ b ∧ b ≤ allN n)) : isR n b = false := by simp only [isR, decide_eq_false h]
theorem isR_iff {n b : Int} : isR n b = true ↔ (1 ≤ n ∧ n ≤ 4 ∧ 0 ≤ b ∧ b ≤ allN n) := by simp [isR]

/-- The numbers of a relation. -/
structure ROk (n : Int) (x R : Nat) : Prop extends FOk n x R where
  h1 : 1 ≤ n
theorem rok {n b : Int} (h : isR n b = true) : ∃ x R : Nat, b = (x : Int) ∧ ROk n x R := by
  obtain ⟨h1, h4, hb, ha⟩ := isR_iff.1 h
  obtain ⟨x, R, e, ok⟩ := fok (n := n) (b := b) (isF_true (by omega) h4 hb ha)
  exact ⟨x, R, e, { ok with h1 := h1 }⟩
theorem ROk.is {n : Int} {x R : Nat} (ok : ROk n x R) : isR n (x : Int) = true := by
  obtain ⟨_, _, hb, ha⟩ := isF_iff.1 ok.toFOk.is
  exact isR_iff.2 ⟨ok.h1, ok.h4, hb, ha⟩

set_option maxRecDepth 100000 in
set_option maxHeartbeats 1000000 in
theorem l06Is_any (n b : Int) (w : World) :
    Calls Try.prog 79 #[.agg #[.int .i64 n, .int .i64 b]] w fun e w' => e = .returned (.bool (isR n b)) ∧ Below w.heap.size w w' := by
  by_cases h : 1 ≤ n ∧ n ≤ 4
  · have H1 := inB_true h.1 h.2
    obtain ⟨h1, h4⟩ := h
    have h0 : 0 ≤ n := by omega
    rw [show isR n b = inB b 0 (allN n) by simp [isR, inB, h1, h4]]
    generalize hx : inB b 0 (allN n) = x
    go_enter Try.func79, Try.ntmps79
    go_wp2
    go_quiet (first | (go_at_call 84; exact quiet_eq (l01In_is (by assumption) _)) | (go_at_call 85; exact quiet_eq (l01All_any _ h0 h4 _)))
    go_wp2
    go_ret
    exact ⟨rfl, below_drewN ((Below.refl _ _).alloc (Nat.le_refl _) _) _⟩
  · have H1 := inB_false h
    rw [isR_false (by omega)]
    clear h
    go_enter Try.func79, Try.ntmps79
    go_wp2
    go_quiet (first | (go_at_call 84; exact quiet_eq (l01In_is (by assumption) _)))
    go_wp2
    go_ret
    exact ⟨rfl, below_drewN ((Below.refl _ _).alloc (Nat.le_refl _) _) _⟩


theorem l06Is_is {n b : Int} {x : Bool} (h : isR n b = x) (w : World) :
    Calls Try.prog 79 #[.agg #[.int .i64 n, .int .i64 b]] w fun e w' => e = .returned (.bool x) ∧ Below w.heap.size w w' := h ▸ l06Is_any n b w

set_option maxRecDepth 100000 in
set_option maxHeartbeats 4000000 in
theorem rb_0 (w : World) : Calls Try.prog 146 #[.int .i64 0] w fun e w' => e = .returned (.int .i64 ((2 ^ 1 - 1 : Nat) : Int)) ∧ w = w' := by
  go_enter Try.func146, Try.ntmps146
  go_wp2
  go_ret
  exact ⟨rfl, rfl⟩
set_option maxRecDepth 100000 in
set_option maxHeartbeats 4000000 in
theorem rb_1 (w : World) : Calls Try.prog 146 #[.int .i64 1] w fun e w' => e = .returned (.int .i64 ((2 ^ 2 - 1 : Nat) : Int)) ∧ w = w' := by
  go_enter Try.func146, Try.ntmps146
  go_wp2
  go_ret
  exact ⟨rfl, rfl⟩
set_option maxRecDepth 100000 in
set_option maxHeartbeats 4000000 in
theorem rb_2 (w : World) : Calls Try.prog 146 #[.int .i64 2] w fun e w' => e = .returned (.int .i64 ((2 ^ 4 - 1 : Nat) : Int)) ∧ w = w' := by
  go_enter Try.func146, Try.ntmps146
  go_wp2
  go_ret
  exact ⟨rfl, rfl⟩
set_option maxRecDepth 100000 in
set_option maxHeartbeats 4000000 in
theorem rb_3 (w : World) : Calls Try.prog 146 #[.int .i64 3] w fun e w' => e = .returned (.int .i64 ((2 ^ 8 - 1 : Nat) : Int)) ∧ w = w' := by
  go_enter Try.func146, Try.ntmps146
  go_wp2
  go_ret
  exact ⟨rfl, rfl⟩
set_option maxRecDepth 100000 in
set_option maxHeartbeats 4000000 in
theorem rb_4 (w : World) : Calls Try.prog 146 #[.int .i64 4] w fun e w' => e = .returned (.int .i64 ((2 ^ 16 - 1 : Nat) : Int)) ∧ w = w' := by
  go_enter Try.func146, Try.ntmps146
  go_wp2
  go_ret
  exact ⟨rfl, rfl⟩
theorem greatestBits_any {n : Int} (h0 : 0 ≤ n) (h4 : n ≤ 4) (w : World) :
    Calls Try.prog 146 #[.int .i64 n] w fun e w' => e = .returned (.int .i64 (allN n)) ∧ w = w' := by
  rcases five h0 h4 with rfl | rfl | rfl | rfl | rfl
  · rw [show allN 0 = ((2 ^ 1 - 1 : Nat) : Int) by decide]; exact rb_0 w
  · rw [show allN 1 = ((2 ^ 2 - 1 : Nat) : Int) by decide]; exact rb_1 w
  · rw [show allN 2 = ((2 ^ 4 - 1 : Nat) : Int) by decide]; exact rb_2 w
  · rw [show allN 3 = ((2 ^ 8 - 1 : Nat) : Int) by decide]; exact rb_3 w
  · rw [show allN 4 = ((2 ^ 16 - 1 : Nat) : Int) by decide]; exact rb_4 w

set_option maxRecDepth 100000 in
set_option maxHeartbeats 1000000 in
theorem IsRelation_any (n b : Int) (w : World) :
    Calls Try.prog 83 #[.agg #[.int .i64 n, .int .i64 b]] w fun e w' => e = .returned (.bool (isR n b)) ∧ Below w.heap.size w w' := by
  by_cases h1 : 1 ≤ n
  · by_cases h4 : n ≤ 4
    · by_cases hb : 0 ≤ b
      · have h0 : 0 ≤ n := by omega
        have HG := Lib.hid (greatestBits_any h0 h4)
        rw [show isR n b = decide (b ≤ allN n) by simp [isR, h1, h4, hb]]
        generalize allN n = al at HG ⊢
        go_enter Try.func83, Try.ntmps83
        go_wp2
        go_quiet (first | (go_at_call 146; exact quiet_eq (HG.out _)))
        go_wp2
        go_ret
        exact ⟨rfl, below_drewN ((Below.refl _ _).alloc (Nat.le_refl _) _) _⟩
      · rw [isR_false (by omega)]
        have hd : decide (0 ≤ b) = false := by simpa using hb
        go_enter Try.func83, Try.ntmps83
        go_wp2
        go_quiet (fail)
        go_wp2
        go_ret
        exact ⟨rfl, below_drewN ((Below.refl _ _).alloc (Nat.le_refl _) _) _⟩
    · rw [isR_false (by omega)]
      have hd : decide (n ≤ 4) = false := by simpa using h4
      go_enter Try.func83, Try.ntmps83
      go_wp2
      go_quiet (fail)
      go_wp2
      go_ret
      exact ⟨rfl, below_drewN ((Below.refl _ _).alloc (Nat.le_refl _) _) _⟩
  · rw [isR_false (by omega)]
    have hd : decide (1 ≤ n) = false := by simpa using h1
    go_enter Try.func83, Try.ntmps83
    go_wp2
    go_quiet (fail)
    go_wp2
    go_ret
    exact ⟨rfl, below_drewN ((Below.refl _ _).alloc (Nat.le_refl _) _) _⟩
theorem IsRelation_is {n b : Int} {x : Bool} (h : isR n b = x) (w : World) :
    Calls Try.prog 83 #[.agg #[.int .i64 n, .int .i64 b]] w fun e w' => e = .returned (.bool x) ∧ Below w.heap.size w w' := h ▸ IsRelation_any n b w

set_option maxRecDepth 100000 in
set_option maxHeartbeats 1000000 in
theorem toRelation_any (n b : Int) (w : World) :
    Calls Try.prog 80 #[.agg #[.int .i64 n, .int .i64 b]] w fun e w' => e = .returned (.agg #[.int .i64 n, .int .i64 b]) ∧ Below w.heap.size w w' := by
  go_enter Try.func80, Try.ntmps80
  go_wp2
  exact bodyPost_ret (v := .agg #[.int .i64 n, .int .i64 b]) (by simp [results, Try.results80, go_sem]) rfl ⟨rfl, (((Below.refl _ _).alloc (Nat.le_refl _) _).alloc (by simp) _).alloc (by simp; omega) _⟩

set_option maxRecDepth 100000 in
set_option maxHeartbeats 1000000 in
theorem eqRelation_same (n b : Int) (w : World) :
    Calls Try.prog 76 #[.agg #[.int .i64 n, .int .i64 b], .agg #[.int .i64 n, .int .i64 b]] w fun e w' => e = .returned (.bool true) ∧ Below w.heap.size w w' := by
  go_enter Try.func76, Try.ntmps76
  go_wp2
  go_ret
  exact ⟨rfl, balloc (bnew _ _) _⟩

theorem ansBoxR (n b : Int) (w : World) : ∃ W1, w.alloc (.cells #[.int .i64 n, .int .i64 b] 26) = W1 ∧ W1.cell? ⟨w.heap.size, 0, none⟩ = some (.int .i64 n) ∧ W1.cell? ⟨w.heap.size, 1, none⟩ = some (.int .i64 b) ∧ Below w.heap.size w W1 :=
  ⟨_, rfl, by simp [go_sem], by simp [go_sem], bnew _ _⟩


end Go.Proofs.Ytdgpjpcdifpllaa

/- NM1:
  Functions put into a function by a tree of choices, as plain words: what lies in the tree's levels, the value at a place, all lists of a length. -/
namespace Go.Proofs.Ytdgpjpcdifpllaa

/-- b where g has the digit, else a. -/
def selN (a b g : Nat) : Nat := (a ^^^ (a &&& g)) ||| (b &&& g)
theorem selN_bit (a b g k : Nat) : (selN a b g).testBit k = if g.testBit k then b.testBit k else a.testBit k := by
  simp only [selN, Nat.testBit_or, Nat.testBit_xor, Nat.testBit_and]
  cases g.testBit k <;> cases a.testBit k <;> cases b.testBit k <;> rfl
theorem selN_lt {a b g T : Nat} (ha : a < 2 ^ T) (hb : b < 2 ^ T) : selN a b g < 2 ^ T := by
  have h1 : a &&& g < 2 ^ T := Nat.lt_of_le_of_lt Nat.and_le_left ha
  have h2 : b &&& g < 2 ^ T := Nat.lt_of_le_of_lt Nat.and_le_left hb
  exact Nat.or_lt_two_pow (Nat.xor_lt_two_pow ha h1) h2

/-- A level of the tree: v at the bottom, the functions of p put in, the first one lowest. -/
def levF (v : Nat → Nat) : List Nat → Nat → Nat
  | [], q => v q
  | g :: p, q => levF (fun q => selN (v (2 * q)) (v (2 * q + 1)) g) p q
theorem levF_snoc (v : Nat → Nat) (p : List Nat) (g q : Nat) : levF v (p ++ [g]) q = selN (levF v p (2 * q)) (levF v p (2 * q + 1)) g := by
  induction p generalizing v with
  | nil => rfl
  | cons a p ih => simp only [List.cons_append, levF, ih]
theorem levF_lt {v : Nat → Nat} {T : Nat} (hv : ∀ q, v q < 2 ^ T) (p : List Nat) (q : Nat) : levF v p q < 2 ^ T := by
  induction p generalizing v with
  | nil => exact hv q
  | cons a p ih => exact ih (fun q => selN_lt (hv _) (hv _))

/-- The row at place k of functions (of tuples) in order. -/
def rowP : List Nat → Nat → Nat
  | [], _ => 0
  | g :: p, k => (g.testBit k).toNat + 2 * rowP p k
theorem rowP_lt (p : List Nat) (k : Nat) : rowP p k < 2 ^ p.length := by
  induction p with
  | nil => simp [rowP]
  | cons g p ih => simp only [rowP, List.length_cons, Nat.pow_succ]; have : (g.testBit k).toNat ≤ 1 := by cases g.testBit k <;> decide
                   omega
theorem rowP_snoc (p : List Nat) (g k : Nat) : rowP (p ++ [g]) k = rowP p k + (g.testBit k).toNat * 2 ^ p.length := by
  induction p with
  | nil => simp [rowP]
  | cons a p ih => simp only [List.cons_append, rowP, ih, List.length_cons, Nat.pow_succ]; grind
theorem levF_bit (v : Nat → Nat) (p : List Nat) (q k : Nat) : (levF v p q).testBit k = (v (rowP p k + 2 ^ p.length * q)).testBit k := by
  induction p generalizing v with
  | nil => simp [levF, rowP]
  | cons g p ih =>
    simp only [levF, ih, selN_bit, rowP, List.length_cons]
    have e : (g.testBit k).toNat + 2 * rowP p k + 2 ^ (p.length + 1) * q = 2 * (rowP p k + 2 ^ p.length * q) + (g.testBit k).toNat := by rw [Nat.pow_succ]; grind
    rw [e]
    cases g.testBit k <;> simp

theorem bitN_testBit (x i : Nat) : bitN x i = (x.testBit i).toNat := by
  unfold bitN
  rw [Nat.testBit_eq_decide_div_mod_eq]
  have : x / 2 ^ i % 2 < 2 := Nat.mod_lt _ (by decide)
  by_cases h : x / 2 ^ i % 2 = 1
  · simp [h]
  · have h0 : x / 2 ^ i % 2 = 0 := by omega
    simp [h0]
theorem sumN_testBit (u : Nat → Nat) (hu : ∀ j, u j ≤ 1) (K k : Nat) : (sumN u K).testBit k = (decide (k < K) && (u k == 1)) := by
  induction K with
  | zero => simp [sumN]
  | succ K ih =>
    have hlt : sumN u K < 2 ^ K := sumN_lt u K (fun r _ => hu r)
    have e : sumN u (K + 1) = 2 ^ K * u K + sumN u K := by simp only [sumN, Nat.mul_comm]; omega
    rw [e, Nat.testBit_two_pow_mul_add _ hlt]
    by_cases h : k < K
    · have h1 : k < K + 1 := by omega
      rw [if_pos h, ih, decide_eq_true h, decide_eq_true h1]
    · rw [if_neg h]
      by_cases hk : k = K
      · subst hk
        rw [Nat.sub_self, decide_eq_true (Nat.lt_succ_self k), Bool.true_and]
        rcases (show u k = 0 ∨ u k = 1 by have := hu k; omega) with h0 | h0 <;> rw [h0] <;> decide
      · have h1 : ¬ k < K + 1 := by omega
        rw [decide_eq_false h1, Bool.false_and]
        exact Nat.testBit_lt_two_pow (Nat.lt_of_le_of_lt (hu K) (Nat.lt_of_lt_of_le (by decide : 1 < 2 ^ 1) (Nat.pow_le_pow_right (by decide) (by omega))))

/-- What f (with the Bits x) makes of the tuples p, at its first places. -/
def tupV (x : Nat) (p : List Nat) (places : Nat) : Nat := sumN (fun k => bitN x (rowP p k)) places
theorem tupV_lt (x : Nat) (p : List Nat) (places : Nat) : tupV x p places < 2 ^ places := sumN_lt _ _ (fun _ _ => bitN_le _ _)
theorem tupV_lev (x : Nat) (p : List Nat) (places : Nat) (hp : places ≤ 4) : levF (fun q => bitN x q * 15) p 0 &&& (2 ^ places - 1) = tupV x p places := by
  apply Nat.eq_of_testBit_eq
  intro k
  rw [tupV, sumN_testBit _ (fun _ => bitN_le _ _), Nat.testBit_and, levF_bit, Nat.testBit_two_pow_sub_one, Nat.mul_zero, Nat.add_zero]
  by_cases h : k < places
  · simp only [h, decide_true, Bool.and_true, Bool.true_and]
    have h4 : k = 0 ∨ k = 1 ∨ k = 2 ∨ k = 3 := by omega
    rcases (show bitN x (rowP p k) = 0 ∨ bitN x (rowP p k) = 1 by have := bitN_le x (rowP p k); omega) with e | e <;> rw [e] <;> rcases h4 with rfl | rfl | rfl | rfl <;> decide
  · simp [h]

/-- All lists of m numbers of a list, in lexicographic order. -/
def allP (g : List Nat) : Nat → List (List Nat)
  | 0 => [[]]
  | m + 1 => g.flatMap fun a => (allP g m).map (a :: ·)
theorem allP_mem {g : List Nat} {m : Nat} {p : List Nat} : p ∈ allP g m ↔ p.length = m ∧ ∀ a ∈ p, a ∈ g := by
  induction m generalizing p with
  | zero => simp only [allP, List.mem_singleton]; constructor
            · rintro rfl; simp
            · rintro ⟨h, _⟩; exact List.length_eq_zero_iff.1 h
  | succ m ih =>
    simp only [allP, List.mem_flatMap, List.mem_map]
    constructor
    · rintro ⟨a, ha, q, hq, rfl⟩
      obtain ⟨h1, h2⟩ := ih.1 hq
      exact ⟨by simp [h1], by simpa [ha] using h2⟩
    · rintro ⟨h1, h2⟩
      cases p with
      | nil => simp at h1
      | cons a q => exact ⟨a, h2 a (by simp), q, ih.2 ⟨by simpa using h1, fun b hb => h2 b (by simp [hb])⟩, rfl⟩
theorem allP_length (g : List Nat) (m : Nat) : (allP g m).length = g.length ^ m := by
  induction m with
  | zero => rfl
  | succ m ih => simp [allP, List.length_flatMap, ih, Nat.pow_succ, Nat.mul_comm, List.map_const', List.sum_replicate_nat]

/-- What is made behind the tuples b, m more to come. -/
def madeL (x places : Nat) (g b : List Nat) (m : Nat) : List Nat := (allP g m).map fun p => tupV x (b ++ p) places
theorem madeL_zero (x places : Nat) (g b : List Nat) : madeL x places g b 0 = [tupV x b places] := by simp [madeL, allP]
theorem madeL_succ (x places : Nat) (g b : List Nat) (m : Nat) : madeL x places g b (m + 1) = g.flatMap fun a => madeL x places g (b ++ [a]) m := by
  simp only [madeL, allP, List.map_flatMap, List.map_map]
  congr 1
  funext a
  congr 1
  funext p
  simp [Function.comp]
theorem madeL_lt {x places : Nat} {g b : List Nat} {m t : Nat} (h : t ∈ madeL x places g b m) : t < 2 ^ places := by
  simp only [madeL, List.mem_map] at h
  obtain ⟨p, _, rfl⟩ := h
  exact tupV_lt _ _ _

/-- Numbers as digits. -/
def orL (b : Nat) (l : List Nat) : Nat := l.foldl (fun o t => o ||| 2 ^ t) b
theorem orL_bit (b : Nat) (l : List Nat) (k : Nat) : (orL b l).testBit k = (b.testBit k || l.contains k) := by
  induction l generalizing b with
  | nil => simp [orL]
  | cons t l ih =>
    have : orL b (t :: l) = orL (b ||| 2 ^ t) l := rfl
    rw [this, ih, Nat.testBit_or, Nat.testBit_two_pow, List.contains_cons]
    by_cases h : t = k
    · subst h; simp
    · have h2 : (k == t) = false := by simp; omega
      simp [h, h2]
theorem orL_or (b : Nat) (l : List Nat) : orL b l = b ||| orL 0 l := by
  apply Nat.eq_of_testBit_eq
  intro k
  simp [orL_bit, Nat.testBit_or]
theorem orL_append (b : Nat) (l l' : List Nat) : orL b (l ++ l') = orL b l ||| orL 0 l' := by
  rw [← orL_or]; simp [orL]
theorem orL_lt {b : Nat} {l : List Nat} {R : Nat} (hb : b < 2 ^ R) (h : ∀ t ∈ l, t < R) : orL b l < 2 ^ R := by
  induction l generalizing b with
  | nil => exact hb
  | cons t l ih =>
    exact ih (Nat.or_lt_two_pow hb (Nat.pow_lt_pow_right (by decide) (h t (by simp)))) (fun u hu => h u (by simp [hu]))

/-- The tuples of a relation. -/
def tupsL (x k : Nat) : List Nat := (List.range k).filter fun t => bitN x t == 1
theorem tupsL_yes (x k : Nat) (h : bitN x k = 1) : tupsL x (k + 1) = tupsL x k ++ [k] := by simp [tupsL, List.range_succ, h]
theorem tupsL_no (x k : Nat) (h : bitN x k ≠ 1) : tupsL x (k + 1) = tupsL x k := by simp [tupsL, List.range_succ, h]
theorem tupsL_len (x k : Nat) : (tupsL x k).length ≤ k := Nat.le_trans (List.length_filter_le _ _) (by simp)
theorem tupsL_mem {x k t : Nat} : t ∈ tupsL x k ↔ t < k ∧ bitN x t = 1 := by simp [tupsL]

/-- f keeps the relation: all that is made is in it. -/
def keepsN (x y m places : Nat) : Bool := (madeL x places (tupsL y (2 ^ places)) [] m).all fun t => bitN y t == 1
theorem keepsN_or {x y m places : Nat} : ((orL 0 (madeL x places (tupsL y (2 ^ places)) [] m)) ^^^ (orL 0 (madeL x places (tupsL y (2 ^ places)) [] m) &&& y) == 0) = keepsN x y m places := by
  unfold keepsN
  generalize madeL x places (tupsL y (2 ^ places)) [] m = l
  rw [Bool.eq_iff_iff, beq_iff_eq, List.all_eq_true]
  constructor
  · intro h t ht
    have := congrArg (fun z => z.testBit t) h
    simp only [Nat.testBit_xor, Nat.testBit_and, orL_bit, Nat.zero_testBit, Bool.false_or] at this
    have hc : l.contains t = true := by simpa using ht
    rw [hc] at this
    rw [beq_iff_eq, bitN_testBit]
    cases hy : y.testBit t
    · rw [hy] at this; simp at this
    · rfl
  · intro h
    apply Nat.eq_of_testBit_eq
    intro t
    simp only [Nat.testBit_xor, Nat.testBit_and, orL_bit, Nat.zero_testBit, Bool.false_or]
    cases hc : l.contains t
    · rfl
    · have := h t (by simpa using hc)
      rw [beq_iff_eq, bitN_testBit] at this
      cases hy : y.testBit t
      · rw [hy] at this; cases this
      · rfl
end Go.Proofs.Ytdgpjpcdifpllaa

/- G1:
  WeightOf of the program: the library's count of ones. -/
namespace Go.Proofs.Ytdgpjpcdifpllaa
open Go.RowKit

/-- The number of ones among the first digits. -/
def ones (x : Nat) : Nat → Nat
  | 0 => 0
  | k + 1 => ones x k + bitN x k
def pop1 (x : Nat) : Nat := (x / 2 &&& 6148914691236517205) + (x &&& 6148914691236517205)
def pop2 (x : Nat) : Nat := (x / 4 &&& 3689348814741910323) + (x &&& 3689348814741910323)
def pop3 (x : Nat) : Nat := (x / 16 + x) &&& 1085102592571150095
def pop4 (x : Nat) : Nat := x / 256 + x
def pop5 (x : Nat) : Nat := x / 65536 + x
def pop6 (x : Nat) : Nat := x / 4294967296 + x
def popN (x : Nat) : Nat := pop6 (pop5 (pop4 (pop3 (pop2 (pop1 x))))) &&& 127
/-- The number of ones among sixteen digits, written out. -/
def ones16 (x : Nat) : Nat := x % 2 + x / 2 % 2 + x / 4 % 2 + x / 8 % 2 + x / 16 % 2 + x / 32 % 2 + x / 64 % 2 + x / 128 % 2 + x / 256 % 2 + x / 512 % 2 + x / 1024 % 2 + x / 2048 % 2 + x / 4096 % 2 + x / 8192 % 2 + x / 16384 % 2 + x / 32768 % 2
theorem ones16_eq (x : Nat) : ones16 x = ones x 16 := by simp [ones16, ones, bitN]
def popRow (k : Nat) : Bool := (List.range 16).all fun a => (List.range 256).all fun b => Nat.beq (popN (4096 * k + 256 * a + b)) (ones16 (4096 * k + 256 * a + b))
theorem pop_row0 : popRow 0 = true := by kernel_rfl
theorem pop_row1 : popRow 1 = true := by kernel_rfl
theorem pop_row2 : popRow 2 = true := by kernel_rfl
theorem pop_row3 : popRow 3 = true := by kernel_rfl
theorem pop_row4 : popRow 4 = true := by kernel_rfl
theorem pop_row5 : popRow 5 = true := by kernel_rfl
theorem pop_row6 : popRow 6 = true := by kernel_rfl
theorem pop_row7 : popRow 7 = true := by kernel_rfl
theorem pop_row8 : popRow 8 = true := by kernel_rfl
theorem pop_row9 : popRow 9 = true := by kernel_rfl
theorem pop_row10 : popRow 10 = true := by kernel_rfl
theorem pop_row11 : popRow 11 = true := by kernel_rfl
theorem pop_row12 : popRow 12 = true := by kernel_rfl
theorem pop_row13 : popRow 13 = true := by kernel_rfl
theorem pop_row14 : popRow 14 = true := by kernel_rfl
theorem pop_row15 : popRow 15 = true := by kernel_rfl
theorem pop_rows (k : Nat) (hk : k < 16) : popRow k = true := by
  have h : k = 0 ∨ k = 1 ∨ k = 2 ∨ k = 3 ∨ k = 4 ∨ k = 5 ∨ k = 6 ∨ k = 7 ∨ k = 8 ∨ k = 9 ∨ k = 10 ∨ k = 11 ∨ k = 12 ∨ k = 13 ∨ k = 14 ∨ k = 15 := by omega
  rcases h with rfl | rfl | rfl | rfl | rfl | rfl | rfl | rfl | rfl | rfl | rfl | rfl | rfl | rfl | rfl | rfl
  · exact pop_row0
  · exact pop_row1
  · exact pop_row2
  · exact pop_row3
  · exact pop_row4
  · exact pop_row5
  · exact pop_row6
  · exact pop_row7
  · exact pop_row8
  · exact pop_row9
  · exact pop_row10
  · exact pop_row11
  · exact pop_row12
  · exact pop_row13
  · exact pop_row14
  · exact pop_row15
theorem pop_at (k a b : Nat) (hk : k < 16) (ha : a < 16) (hb : b < 256) : popN (4096 * k + 256 * a + b) = ones (4096 * k + 256 * a + b) 16 := by
  rw [← ones16_eq]
  exact Nat.eq_of_beq_eq_true (List.all_eq_true.1 (List.all_eq_true.1 (pop_rows k hk) a (List.mem_range.2 ha)) b (List.mem_range.2 hb))
theorem pop_ok (x : Nat) (hx : x < 65536) : popN x = ones x 16 := by
  have h := pop_at (x / 4096) (x / 256 % 16) (x % 256) (by omega) (by omega) (by omega)
  rwa [show 4096 * (x / 4096) + 256 * (x / 256 % 16) + x % 256 = x by omega] at h
theorem bits_and_u64 (x y : Nat) (hx : x < 2 ^ 62) (hy : y < 2 ^ 63) : bits .and .u64 (x : Int) (y : Int) = ((x &&& y : Nat) : Int) := by
  have h : x &&& y ≤ x := Nat.and_le_left
  show IntKind.u64.wrap ((BitVec.ofInt 64 (x : Int) &&& BitVec.ofInt 64 (y : Int)).toNat : Int) = _
  rw [BitVec.ofInt_natCast, BitVec.ofInt_natCast, BitVec.toNat_and, BitVec.toNat_ofNat, BitVec.toNat_ofNat, Nat.mod_eq_of_lt (by omega : x < 2 ^ 64), Nat.mod_eq_of_lt (by omega : y < 2 ^ 64)]
  simp [IntKind.wrap, IntKind.bits, IntKind.signed]; omega
theorem bits_and_i64 (x y : Nat) (hx : x < 2 ^ 62) (hy : y < 2 ^ 62) : bits .and .i64 (x : Int) (y : Int) = ((x &&& y : Nat) : Int) := by
  have h : x &&& y ≤ x := Nat.and_le_left
  show IntKind.i64.wrap ((BitVec.ofInt 64 (x : Int) &&& BitVec.ofInt 64 (y : Int)).toNat : Int) = _
  rw [BitVec.ofInt_natCast, BitVec.ofInt_natCast, BitVec.toNat_and, BitVec.toNat_ofNat, BitVec.toNat_ofNat, Nat.mod_eq_of_lt (by omega : x < 2 ^ 64), Nat.mod_eq_of_lt (by omega : y < 2 ^ 64)]
  exact wrap64_small (by omega) (by omega)

set_option maxRecDepth 100000 in
set_option maxHeartbeats 2000000 in
theorem onesCount_any (x : Nat) (hx : x < 65536) (w : World) :
    Calls Try.prog 108 #[.int .u64 (x : Int)] w fun e w' => e = .returned (.int .i64 (ones x 16 : Int)) ∧ w = w' := by
  rw [← pop_ok x hx]
  have e1 : bits .and .u64 ((x : Int) / 2) 6148914691236517205 = ((x / 2 &&& 6148914691236517205 : Nat) : Int) := bits_and_u64 (x / 2) 6148914691236517205 (by omega) (by decide)
  have e2 : bits .and .u64 (x : Int) 6148914691236517205 = ((x &&& 6148914691236517205 : Nat) : Int) := bits_and_u64 x 6148914691236517205 (by omega) (by decide)
  have b1 : x / 2 &&& 6148914691236517205 ≤ x / 2 := Nat.and_le_left
  have b2 : x &&& 6148914691236517205 ≤ x := Nat.and_le_left
  have f1 : popN x = pop6 (pop5 (pop4 (pop3 (pop2 ((x / 2 &&& 6148914691236517205) + (x &&& 6148914691236517205)))))) &&& 127 := rfl
  generalize x / 2 &&& 6148914691236517205 = p at e1 b1 f1
  generalize x &&& 6148914691236517205 = q at e2 b2 f1
  have e3 : bits .and .u64 (((p : Int) + (q : Int)) / 4) 3689348814741910323 = (((p + q) / 4 &&& 3689348814741910323 : Nat) : Int) := bits_and_u64 ((p + q) / 4) 3689348814741910323 (by omega) (by decide)
  have e4 : bits .and .u64 ((p : Int) + (q : Int)) 3689348814741910323 = ((p + q &&& 3689348814741910323 : Nat) : Int) := bits_and_u64 (p + q) 3689348814741910323 (by omega) (by decide)
  have b3 : (p + q) / 4 &&& 3689348814741910323 ≤ (p + q) / 4 := Nat.and_le_left
  have b4 : p + q &&& 3689348814741910323 ≤ p + q := Nat.and_le_left
  have f2 : pop2 (p + q) = ((p + q) / 4 &&& 3689348814741910323) + (p + q &&& 3689348814741910323) := rfl
  generalize (p + q) / 4 &&& 3689348814741910323 = r at e3 b3 f2
  generalize p + q &&& 3689348814741910323 = s at e4 b4 f2
  rw [f2] at f1
  have e5 : bits .and .u64 (((r : Int) + (s : Int)) / 16 + ((r : Int) + (s : Int))) 1085102592571150095 = (((r + s) / 16 + (r + s) &&& 1085102592571150095 : Nat) : Int) := bits_and_u64 ((r + s) / 16 + (r + s)) 1085102592571150095 (by omega) (by decide)
  have b5 : (r + s) / 16 + (r + s) &&& 1085102592571150095 ≤ (r + s) / 16 + (r + s) := Nat.and_le_left
  have f3 : pop3 (r + s) = (r + s) / 16 + (r + s) &&& 1085102592571150095 := rfl
  generalize (r + s) / 16 + (r + s) &&& 1085102592571150095 = d at e5 b5 f3
  rw [f3] at f1
  have f4 : pop6 (pop5 (pop4 d)) = d + d / 256 + (d + d / 256) / 65536 + (d + d / 256 + (d + d / 256) / 65536) / 4294967296 := by simp only [pop4, pop5, pop6]; omega
  rw [f4] at f1
  have e6 : bits .and .i64 ((d : Int) + (d : Int) / 256 + ((d : Int) + (d : Int) / 256) / 65536 + ((d : Int) + (d : Int) / 256 + ((d : Int) + (d : Int) / 256) / 65536) / 4294967296) 127 = (popN x : Int) := by
    rw [f1]
    exact bits_and_i64 (d + d / 256 + (d + d / 256) / 65536 + (d + d / 256 + (d + d / 256) / 65536) / 4294967296) 127 (by omega) (by decide)
  clear f1 f2 f3 f4
  go_enter Try.func108, Try.ntmps108
  go_wp2
  go_ret
  exact ⟨rfl, rfl⟩
end Go.Proofs.Ytdgpjpcdifpllaa

/- G2:
  WeightOf in both packages. -/
namespace Go.Proofs.Ytdgpjpcdifpllaa
open Go.RowKit

theorem ones_le (x k : Nat) : ones x k ≤ k := by
  induction k with
  | zero => exact Nat.le_refl _
  | succ k ih => have := bitN_le x k; simp only [ones]; omega
theorem ones_up (x R : Nat) (hx : x < 2 ^ R) (d : Nat) : ones x (R + d) = ones x R := by
  induction d with
  | zero => rfl
  | succ d ih =>
    rw [← Nat.add_assoc, ones, ih]
    have h1 : (2 : Nat) ^ R ≤ 2 ^ (R + d) := Nat.pow_le_pow_right (by decide) (by omega)
    have h2 : bitN x (R + d) = 0 := by unfold bitN; rw [Nat.div_eq_of_lt (by omega)]
    omega
theorem FOk.ones {n : Int} {x R : Nat} (ok : FOk n x R) : ones x 16 = Go.Proofs.Ytdgpjpcdifpllaa.ones x R := by
  have r16 := ok.r16
  have := ones_up x R ok.hB (16 - R)
  rwa [show R + (16 - R) = 16 by omega] at this

set_option maxRecDepth 100000 in
set_option maxHeartbeats 2000000 in
theorem l01Weight_any {n : Int} {x R : Nat} (ok : FOk n x R) (w : World) :
    Calls Try.prog 199 #[.agg #[.int .i64 n, .int .i64 (x : Int)]] w fun e w' => e = .returned (.int .i64 (ones x R : Int)) ∧ Below w.heap.size w w' := by
  have r16 := ok.r16
  obtain ⟨W1, hW1⟩ : ∃ W1, w.alloc (.cells #[.int .i64 n, .int .i64 (x : Int)] 23) = W1 := ⟨_, rfl⟩
  have p0 : W1.cell? ⟨w.heap.size, 0, none⟩ = some (.int .i64 n) := by rw [← hW1]; simp [go_sem]
  have p1 : W1.cell? ⟨w.heap.size, 1, none⟩ = some (.int .i64 (x : Int)) := by rw [← hW1]; simp [go_sem]
  have hB : Below w.heap.size w W1 := by rw [← hW1]; exact bnew _ _
  go_enter Try.func199, Try.ntmps199
  go_wp2
  clear hW1
  go_loopw [3, 4] (fun q i' wr => ∃ k : Nat, k ≤ R ∧ i' = .int .i64 k ∧ q = .int .i64 (ones x k : Int) ∧ Below W1.heap.size W1 wr) (fun _ i' _ => R - (intOf i').toNat)
  case atStart => exact ⟨0, Nat.zero_le _, rfl, rfl, Below.refl _ _⟩
  case round =>
    obtain ⟨k, hk, rfl, rfl, hN⟩ := hrel
    have q0 := kc hN p0
    have q1 := kc hN p1
    by_cases hlt : k < R
    · have hb1 := bitN_le x k
      have hol := ones_le x k
      have HO : Hid ((ones x k : Int) + (bitN x k : Int) = (ones x (k + 1) : Int)) := Lib.hid (by simp only [ones]; omega)
      go_wp2_with (first
        | (go_at_call 106; refine (l01Rows_is ok.h0 ok.h4 ok.hR _).mono ?_; rintro e w' ⟨rfl, rfl⟩)
        | (go_at_call 107; refine (l01At_any n x k ok.hx (by omega) _).mono ?_; rintro e w2 ⟨rfl, hb2⟩; have hN2 := bthen hN hb2))
      go_roundw
      case rel => exact ⟨k + 1, by omega, by go_num, by rw [HO.out], hN2⟩
      case measure => simp [intOf]; omega
    · obtain rfl : k = R := by omega
      have hB2 := bthen hB hN
      go_wp2_with (first
        | (go_at_call 106; refine (l01Rows_is ok.h0 ok.h4 ok.hR _).mono ?_; rintro e w' ⟨rfl, rfl⟩))
      go_ret
      exact ⟨rfl, hB2⟩

end Go.Proofs.Ytdgpjpcdifpllaa

/- RE2:
  The tuples of a relation as a list in the model; CountTuples in both packages. -/
namespace Go.Proofs.Ytdgpjpcdifpllaa
open Go.RowKit
set_option linter.unusedVariables false
set_option linter.unusedSimpArgs false

theorem owns_len {W : World} {base : Nat} {s : Value} {xs : List Int} {m : Nat} (h : Owns W base s xs) (hx : xs.length = m) : ∃ a cap, s = .slice a m cap := by
  rcases h.shape with ⟨e, a, cap, rfl⟩ | ⟨hn, g, cap, rfl, _⟩
  · rw [e] at hx; simp at hx; subst hx; exact ⟨_, _, rfl⟩
  · rw [hx]; exact ⟨_, _, rfl⟩

/-- Natural numbers as a list of numbers. -/
def nI (l : List Nat) : List Int := l.map fun (j : Nat) => (j : Int)
theorem nI_snoc (l : List Nat) (a : Nat) : nI (l ++ [a]) = nI l ++ [(a : Int)] := by simp [nI]
theorem nI_length (l : List Nat) : (nI l).length = l.length := by simp [nI]
theorem nI_get (l : List Nat) (j : Nat) (h : j < l.length) : (nI l)[j]?.getD 0 = (l[j]?.getD 0 : Nat) := by simp [nI, h]

set_option maxRecDepth 100000 in
set_option maxHeartbeats 2000000 in
theorem l06List_any {n : Int} {x R : Nat} (ok : FOk n x R) (w : World) :
    Calls Try.prog 98 #[.agg #[.int .i64 n, .int .i64 (x : Int)]] w (ListPost w.heap.size (nI (tupsL x R)) w) := by
  obtain ⟨i0, hi, hz0, hz1, hz2⟩ := info_parts infoI
  have r16 := ok.r16
  obtain ⟨W1, hW1⟩ : ∃ W1, w.alloc (.cells #[.int .i64 n, .int .i64 (x : Int)] 26) = W1 := ⟨_, rfl⟩
  have p0 : W1.cell? ⟨w.heap.size, 0, none⟩ = some (.int .i64 n) := by rw [← hW1]; simp [go_sem]
  have p1 : W1.cell? ⟨w.heap.size, 1, none⟩ = some (.int .i64 (x : Int)) := by rw [← hW1]; simp [go_sem]
  have hB : Below w.heap.size w W1 := by rw [← hW1]; exact bnew _ _
  have l0 : w.heap.size < W1.heap.size := cell_lt p0
  go_enter Try.func98, Try.ntmps98
  go_wp2
  clear hW1
  go_loopw [3, 4] (fun s i' wr => ∃ k : Nat, k ≤ R ∧ i' = .int .i64 k ∧ Owns wr W1.heap.size s (nI (tupsL x k)) ∧ Below W1.heap.size W1 wr)
    (fun _ i' _ => R - (intOf i').toNat)
  case atStart => exact ⟨0, Nat.zero_le _, rfl, World.ownsRow_lit W1 #[] 0 (Nat.le_refl _) (by decide) rfl, bnew _ _⟩
  case round =>
    obtain ⟨k, hk, rfl, hown, hN⟩ := hrel
    have hsz := hN.size
    have q0 := kc hN p0
    have q1 := kc hN p1
    by_cases hlt : k < R
    · have E := digit_eq x k ok.hx
      have hlen : (nI (tupsL x k)).length ≤ k := by rw [nI_length]; exact tupsL_len x k
      unfold Owns at hown
      by_cases hb : bitN x k = 1
      · have HS := Lib.hid (tupsL_yes x k hb)
        have ht : ((bitN x k : Int) == 1) = true := by simp [hb]
        clear hb
        go_wp2_with (first
          | (go_at_call 106; refine (l01Rows_is ok.h0 ok.h4 ok.hR _).mono ?_; rintro e w' ⟨rfl, rfl⟩)
          | (at_builtin; refine wpList_append_own _ rfl _ _ 55 rfl W1.heap.size 2 i0 (.int .i64 0) 1 8 Try.underlying55 hi hz0 hz1 hz2 rfl (by decide) _ _ _ rfl (hown.alloc _) ⟨wr.heap.size, 0, none⟩ 1 1 [.int .i64 (k : Int)] rfl rfl (cell_one_new _ _ _) (one_cell_int _) (by unfold maxLen; omega) (by omega) (by simp; omega) ?_))
        intro v' w1 hown' hgrow _
        have hN' := (balloc hN (.cells #[.int .i64 (k : Int)] 2)).grown hgrow (by simp; omega) (fun j e => (World.ownsRow.lt hown j e).1)
        clear hgrow hown hN E
        go_wp2
        go_roundw
        case rel => exact ⟨k + 1, by omega, by go_num, by rw [HS.out, nI_snoc]; unfold Owns; rw [ints_snoc, List.length_append]; exact hown', hN'⟩
        case measure => simp [intOf]; omega
      · have HS := Lib.hid (tupsL_no x k hb)
        have ht : ((bitN x k : Int) == 1) = false := by simp; omega
        clear hb
        go_wp2_with (first
          | (go_at_call 106; refine (l01Rows_is ok.h0 ok.h4 ok.hR _).mono ?_; rintro e w' ⟨rfl, rfl⟩))
        go_roundw
        case rel => exact ⟨k + 1, by omega, by go_num, by rw [HS.out]; exact hown, hN⟩
        case measure => simp [intOf]; omega
    · obtain rfl : k = R := by omega
      have ho := Lib.hid (hown.mono hB.size)
      have hBN := bthen hB hN
      clear hown hN
      go_wp2_with (first
        | (go_at_call 106; refine (l01Rows_is ok.h0 ok.h4 ok.hR _).mono ?_; rintro e w' ⟨rfl, rfl⟩))
      go_ret
      exact ⟨_, rfl, ho.out, hBN⟩

theorem tups_ones (x k : Nat) : (tupsL x k).length = ones x k := by
  induction k with
  | zero => rfl
  | succ k ih =>
    by_cases h : bitN x k = 1
    · rw [tupsL_yes x k h, List.length_append, ih]; simp [ones, h]
    · have h0 : bitN x k = 0 := by have := bitN_le x k; omega
      rw [tupsL_no x k h, ih]; simp [ones, h0]

set_option maxRecDepth 100000 in
set_option maxHeartbeats 2000000 in
theorem implCountTuples_no {n b : Int} (h : isR n b = false) (w : World) :
    Calls Try.prog 44 #[.agg #[.int .i64 n, .int .i64 b]] w fun e w' => e = .returned (.tuple #[.int .i64 0, .int .i64 1]) ∧ Below w.heap.size w w' := by
  go_enter Try.func44, Try.ntmps44
  go_wp2_with (first
    | (go_at_call 83; refine (IsRelation_is h _).mono ?_; rintro e w2 ⟨rfl, hb2⟩))
  go_ret2
  exact ⟨rfl, bthen (bnew _ _) hb2⟩

set_option maxRecDepth 100000 in
set_option maxHeartbeats 2000000 in
theorem implCountTuples_yes {n : Int} {x R : Nat} (ok : ROk n x R) (w : World) :
    Calls Try.prog 44 #[.agg #[.int .i64 n, .int .i64 (x : Int)]] w fun e w' => e = .returned (.tuple #[.int .i64 (ones x R : Int), .int .i64 0]) ∧ Below w.heap.size w w' := by
  have h := ok.is
  have hx16 : x < 65536 := by
    have h1 := ok.hB
    have h2 : (2 : Nat) ^ R ≤ 2 ^ 16 := Nat.pow_le_pow_right (by decide) ok.r16
    omega
  rw [← ok.toFOk.ones]
  obtain ⟨W1, hW1⟩ : ∃ W1, w.alloc (.cells #[.int .i64 n, .int .i64 (x : Int)] 26) = W1 := ⟨_, rfl⟩
  have p0 : W1.cell? ⟨w.heap.size, 0, none⟩ = some (.int .i64 n) := by rw [← hW1]; simp [go_sem]
  have p1 : W1.cell? ⟨w.heap.size, 1, none⟩ = some (.int .i64 (x : Int)) := by rw [← hW1]; simp [go_sem]
  have hB : Below w.heap.size w W1 := by rw [← hW1]; exact bnew _ _
  have eu : IntKind.u64.wrap (x : Int) = (x : Int) := by simp [IntKind.wrap, IntKind.bits, IntKind.signed]; omega
  go_enter Try.func44, Try.ntmps44
  go_wp2_with (first
    | (go_at_call 83; refine (IsRelation_is h _).mono ?_; rintro e w2 ⟨rfl, hb2⟩; have q0 := kc hb2 p0; have q1 := kc hb2 p1; have hB2 := bthen hB hb2; clear p0 p1)
    | (go_at_call 108; refine (onesCount_any x hx16 _).mono ?_; rintro e w' ⟨rfl, rfl⟩))
  go_ret2
  exact ⟨rfl, hB2⟩

end Go.Proofs.Ytdgpjpcdifpllaa

/- CP1:
  slices.Concat of two lists of numbers, the second of which may be none. -/
namespace Go.Proofs.Ytdgpjpcdifpllaa
open Go Go.RowKit Go.Shelf
set_option linter.unusedVariables false
set_option linter.unusedSimpArgs false

theorem wpList_append_src {P : Program} (w : World) {ops : Array Oper} {rest : List Oper} {o : Oper} {a : Act} {Q : Exit → Act → World → Prop} (hgd : o.guard = none) (s x : Operand) (t : TypeId)
    (ho : o.op = .call { callee := .builtin .append, args := #[s, x], argTypes := #[t, t] })
    (base : Nat) (e : TypeId) (i : TypeInfo) (z : Value) (bytes : Nat) (ht : P.underlying t = some (.slice e)) (hi : P.info? e = some i) (hz : i.zero = some z)
    (hsize : i.size = 1) (hby : i.bytes = bytes) (hzs : z.cells.size = 1)
    (v : Value) (n : Nat) (xs : List Value) (hs : a.eval s = v) (hown : w.ownsRow base e 1 v n xs) (b2 : Nat) (vs : Value) (m : Nat) (news : List Value) (hx : a.eval x = vs) (hsrc : w.ownsRow b2 e 1 vs m news) (h1 : ∀ u ∈ news, u.oneCell' = true)
    (h63 : n + m ≤ maxLen) (hbytes : (n + m) * bytes ≤ 140737488355328) (hbase : base ≤ w.heap.size)
    (h : ∀ v' w', w'.ownsRow base e 1 v' (n + m) (xs ++ news) → w.grownBy w' v.ownBlock → (v'.ownBlock = v.ownBlock ∨ v'.ownBlock = some w.heap.size) → wpList P ops Q rest (a.put o.dst v') w') :
    wpList P ops Q (o :: rest) a w := by
  rcases hsrc.2 with ⟨rfl, rfl⟩ | ⟨g, cap, cur, rfl, hbg, hg, hnc, hcm, hcs, htake⟩
  · have hn : news = [] := List.eq_nil_of_length_eq_zero (by simpa using hsrc.1)
    subst hn
    refine wpList_plain hgd fun K hK => ?_
    have hr := run_append_none (P := P) w base t o.type e i 1 ht hi v n xs hown 0
    unfold Oper.wp execOp
    simp only [ho, resolve, invoke, builtin, Sem.run_bind, Sem.run_pure, Result.andThen_ok, List.map_toArray, List.map_cons, List.map_nil, hs, hx, hr]
    exact hK _ _ (h v w (by simpa using hown) ⟨rfl, rfl, rfl, Nat.le_refl _, fun _ _ _ => rfl⟩ (.inl rfl))
  · refine wpList_append_own_at w hgd s x t ho base e i z 1 bytes ht hi hz hsize hby hzs (by decide) v n xs hs hown ⟨g, 0, none⟩ m cap news hx (by rw [hsrc.1]) (fun j u hj => ?_) h1 h63 hbytes hbase (fun v' w' h1 h2 _ h4 => h v' w' h1 h2 h4)
    have hjl : j < m * 1 := by rw [← hsrc.1]; exact (List.getElem?_eq_some_iff.1 hj).1
    have hc := World.ownsRow.cellAt hsrc j hjl
    rw [show (⟨g, 0, none⟩ : Addr).add j = ⟨g, j, none⟩ by cases j <;> simp [Addr.add], hc]
    exact hj

set_option maxRecDepth 100000 in
set_option maxHeartbeats 4000000 in
theorem concatP (q : Nat) (ad1 : Addr) (c1 : Nat) (ys1 ys2 : List Int) (v2 : Value) (b2 : Nat) (h8 : ys1.length + ys2.length ≤ 8) (w : World)
    (hq1 : w.cell? ⟨q, 0, none⟩ = some (.slice (some ad1) ys1.length c1)) (hq2 : w.cell? ⟨q, 1, none⟩ = some v2)
    (H1 : Hid (∀ (j : Nat) (u : Value), (ints ys1)[j]? = some u → w.cell? (ad1.add j) = some u)) (H2 : Hid (Owns w b2 v2 ys2)) :
    Calls Try.prog 96 #[.slice (some ⟨q, 0, none⟩) 2 2] w fun e w' => ∃ v, e = .returned v ∧ Owns w' w.heap.size v (ys1 ++ ys2) ∧ Below w.heap.size w w' := by
  obtain ⟨i0, hi, hz0, hz1, hz2⟩ := info_parts infoI
  have L1 := Lib.hid (ints_length' ys1)
  have O1 := Lib.hid (ints_one ys1)
  obtain ⟨m1, hm1⟩ : ∃ m, ys1.length = m := ⟨_, rfl⟩
  rw [hm1] at L1 hq1 h8
  have HM1 := Lib.hid hm1
  clear hm1
  have L2 := Lib.hid (ints_length' ys2)
  have O2 := Lib.hid (ints_one ys2)
  obtain ⟨a2, c2, rfl⟩ := owns_len H2.out rfl
  obtain ⟨m2, hm2⟩ : ∃ m, ys2.length = m := ⟨_, rfl⟩
  rw [hm2] at L2 hq2 h8 H2
  have HM2 := Lib.hid hm2
  clear hm2
  have GR := Lib.hid fun W => (by have := growI_any (m1 + m2) h8 W; rwa [Int.natCast_add] at this : Calls Try.prog 152 #[.slice none 0 0, .int .i64 ((m1 : Int) + (m2 : Int))] W fun e w' => ∃ v, e = .returned v ∧ w'.ownsRow W.heap.size 2 1 v 0 [] ∧ Below W.heap.size W w')
  have hd1 : decide ((m1 : Int) < 0) = false := by simp
  have hd2 : decide ((m1 : Int) + (m2 : Int) < 0) = false := by simp; omega
  go_enter Try.func96, Try.ntmps96
  go_wp2_with fail
  refine wp_loop_rounds 3 ?_
  rw [rounds_succ]
  go_wp2_with fail
  rw [rounds_succ]
  go_wp2_with fail
  rw [rounds_succ]
  go_wp2_with fail
  refine (GR.out _).mono ?_
  rintro e w2 ⟨v, rfl, hown0, hB2⟩
  have q1 := kc hB2 hq1
  have G1 := Lib.hid (fun (j : Nat) (u : Value) (h : (ints ys1)[j]? = some u) => kc hB2 (H1.out j u h))
  have q2 := kc hB2 hq2
  have G2 := Lib.hid (H2.out.below hB2)
  have hsz2 := hB2.size
  go_wp2_with fail
  refine wp_loop_rounds 3 ?_
  rw [rounds_succ]
  go_wp2_with (at_builtin; refine wpList_append_own _ rfl _ _ 55 rfl w.heap.size 2 i0 (.int .i64 0) 1 8 Try.underlying55 hi hz0 hz1 hz2 rfl (by decide) _ _ _ rfl hown0 ad1 m1 c1 (ints ys1) rfl L1.out G1.out O1.out (by unfold maxLen; omega) (by omega) hsz2 ?_)
  intro v1 w3 hown1 hgrow1 _
  have hB3 : Below w.heap.size w w3 := hB2.grown hgrow1 hsz2 (fun j e => (hown0.lt j e).1)
  have hsz3 := hB3.size
  have G2 := Lib.hid (H2.out.below hB3)
  have q1 := kc hB3 hq1
  have q2 := kc hB3 hq2
  clear hown0 hgrow1
  go_wp2_with fail
  rw [rounds_succ]
  have G3 : World.ownsRow _ _ _ _ _ _ _ := G2.out
  rw [HM2.out] at G3
  go_wp2_with (at_builtin; refine wpList_append_src _ rfl _ _ 55 rfl w.heap.size 2 i0 (.int .i64 0) 8 Try.underlying55 hi hz0 hz1 hz2 rfl _ _ _ rfl hown1 b2 _ m2 (ints ys2) rfl G3 O2.out (by unfold maxLen; omega) (by omega) hsz3 ?_)
  intro v2 w4 hown2 hgrow2 _
  have hB4 : Below w.heap.size w w4 := hB3.grown hgrow2 hsz3 (fun j e => (hown1.lt j e).1)
  have hsz4 := hB4.size
  have q1 := kc hB4 hq1
  have q2 := kc hB4 hq2
  clear hown1 hgrow2
  have HO := Lib.hid hown2
  clear hown2
  go_wp2_with fail
  rw [rounds_succ]
  go_wp2
  go_ret
  refine ⟨_, rfl, ?_, hB4⟩
  unfold Owns
  rw [ints_append, List.length_append, HM1.out, HM2.out]
  exact HO.out
end Go.Proofs.Ytdgpjpcdifpllaa

/- NX1:
  A range over a function whose iterator keeps cells of its own, or is itself made of another one: what is asked of it, and the law of who ranges over it.
  A round keeps the blocks of T (the iterator's own); the caller's word speaks of blocks below K alone. -/
namespace Go.Proofs.Ytdgpjpcdifpllaa
open Go Go.RowKit

set_option linter.unusedVariables false

/-- What lay in the blocks of S lies as it lay. -/
structure Above (S : Nat → Prop) (W W' : World) : Prop where
  size : W.heap.size ≤ W'.heap.size
  same : ∀ k, S k → k < W.heap.size → W'.heap[k]? = W.heap[k]?
theorem Above.refl (S : Nat → Prop) (W : World) : Above S W W := ⟨Nat.le_refl _, fun _ _ _ => rfl⟩
theorem Above.trans {S : Nat → Prop} {A B C : World} (h : Above S A B) (k : Above S B C) : Above S A C :=
  ⟨Nat.le_trans h.size k.size, fun i h1 h2 => (k.same i h1 (Nat.lt_of_lt_of_le h2 h.size)).trans (h.same i h1 h2)⟩
theorem Above.mono {S S' : Nat → Prop} {A B : World} (h : Above S A B) (hk : ∀ k, S' k → S k) : Above S' A B := ⟨h.size, fun i h1 h2 => h.same i (hk i h1) h2⟩
theorem Above.grown {S : Nat → Prop} {A B : World} {row : Option Nat} (hg : A.grownBy B row) (hr : ∀ r, row = some r → ¬ S r) : Above S A B :=
  ⟨hg.size, fun i h1 h2 => hg.block i h2 (fun e => hr i e.symm h1)⟩
theorem Above.below {S : Nat → Prop} {A B : World} (h : Below A.heap.size A B) : Above S A B := ⟨h.size, fun i _ h2 => h.block i h2⟩
theorem Above.put {S : Nat → Prop} (W : World) (l : Nat) (o : Obj) (hl : ¬ S l) : Above S W (W.putObj l o) := Above.grown (grownBy_putObj' W l o) (fun r e => by cases e; exact hl)

/-- What speaks of blocks below K alone. -/
def Firm {β : Type} (K : Nat) (J : β → World → Prop) : Prop :=
  ∀ s W W' row, J s W → W.grownBy W' row → (∀ r, row = some r → K ≤ r) → J s W'
theorem Firm.mono {β : Type} {K K' : Nat} {J : β → World → Prop} (h : Firm K J) (hk : K ≤ K') : Firm K' J := fun s W W' row hs hg hr => h s W W' row hs hg (fun r e => Nat.le_trans hk (hr r e))
theorem Firm.and {β : Type} {K : Nat} {I I' : β → World → Prop} (h : Firm K I) (h' : Firm K I') : Firm K (fun s W => I s W ∧ I' s W) :=
  fun s W W' row hs hg hr => ⟨h s W W' row hs.1 hg hr, h' s W W' row hs.2 hg hr⟩
theorem Firm.put {β : Type} {K : Nat} {J : β → World → Prop} (h : Firm K J) {s : β} {W : World} (l : Nat) (o : Obj) (hs : J s W) (hl : K ≤ l) : J s (W.putObj l o) :=
  h s W _ (some l) hs (grownBy_putObj' W l o) (fun r e => by cases e; exact hl)
theorem Firm.alloc {β : Type} {K : Nat} {J : β → World → Prop} (h : Firm K J) {s : β} {W : World} (o : Obj) (hs : J s W) : J s (W.alloc o) :=
  h s W _ none hs (World.grownBy_alloc W o none) (fun r e => by cases e)
/-- A block below K that holds o, and what a step behind K does to it: nothing. -/
theorem firm_block {β : Type} {K k : Nat} (hk : k < K) (o : Obj) : Firm K (fun (_ : β) W => W.heap[k]? = some o) :=
  fun _ W W' row hs hg hr => (hg.block k (Array.getElem?_eq_some_iff.1 hs).1 (fun e => by have := hr k e.symm; omega)).trans hs
theorem firm_below {β : Type} {K m : Nat} {w : World} (hm : m ≤ K) (hs : m ≤ w.heap.size) : Firm K (fun (_ : β) W => Below m w W) :=
  fun _ W W' row hb hg hr => hb.grown hg (Nat.le_trans hs hb.size) (fun r e => Nat.le_trans hm (hr r e))
theorem firm_pure {β : Type} (K : Nat) (p : β → Prop) : Firm K (fun s (_ : World) => p s) := fun _ _ _ _ hs _ _ => hs

/-- **The contract**: at whatever loop l whose rounds keep the blocks of T, and whose word speaks of blocks below K alone, K at most the heap's size at the call. -/
def SeqX {α : Type} (F : Fence) (n : Nat) (P : Program) (g : Nat) (lb : Array Value) (encs : α → Array Value) (S Sp : List α → Prop) (N K : Nat) (T : Nat → Prop) (w : World) : Prop :=
  ∀ (l : Nat) (J Jx : List α → World → Prop) (W : World), Below w.heap.size w W → K ≤ W.heap.size → Firm K J → Firm K Jx →
    (∀ pre x W1, J pre W1 → pre.length < N → YieldAt F (n - 1) P l (encs x) W1 fun e W' =>
      Above T W1 W' ∧ ((e = .returned (.bool true) ∧ J (pre ++ [x]) W') ∨ (e = .returned (.bool false) ∧ Jx (pre ++ [x]) W'))) →
    J [] W →
    CallsIn F n P g (#[.func (.yield l) #[] #[]] ++ lb) W fun e W' => (∃ v, e = .returned v) ∧ ((∃ xs, S xs ∧ J xs W') ∨ (∃ pre, Sp pre ∧ Jx pre W'))

/-- How a round may be left. -/
def postX {α : Type} (B : Nat) (T : Nat → Prop) (I : List α → World → Prop) (Ix : Code → List α → World → Prop) (xs : List α) (W : World) : Exit → Act → World → Prop
  | .normal, _, W' => (KeepsFrom B W W' ∧ Above T W W') ∧ I xs W'
  | .ret, _, W' => (KeepsFrom B W W' ∧ Above T W W') ∧ Ix .ret xs W'
  | .exit id, _, W' => (KeepsFrom B W W' ∧ Above T W W') ∧ Ix (.exit id) xs W'
  | .goto t, _, W' => (KeepsFrom B W W' ∧ Above T W W') ∧ Ix (.goto t) xs W'
  | .panic _, _, _ => False
  | .outgrown, _, _ => False

variable {F : Fence} {n : Nat} {P : Program}

/-- **The law of who ranges over it.** -/
theorem wpIn_rangeFunc_X {α : Type} {g : Operand} {ps : Array Tmp} {assign body : Code} {Q : Exit → Act → World → Prop} {a : Act} {w : World}
    (hro : F.round = none) (h1 : 1 ≤ n) {gf : Nat} {lb : Array Value} (hg : a.eval g = .func (.func gf) #[] lb) (hFg : F.fn gf) (eg : ∀ args w, (callFunc gf args).run P w = .ok (.enter gf args) w)
    {encs : α → Array Value} {S Sp : List α → Prop} {N : Nat} {T : Nat → Prop} {w0 : World} (hT : ¬ T (w.heap.size + 1)) (hseq : SeqX F (n - 1) P gf lb encs S Sp N (w.heap.size + 2) T w0)
    (hb0 : Below w0.heap.size w0 w) (hps : ∀ x, (encs x).size = ps.size)
    (I : List α → World → Prop) (Ix : Code → List α → World → Prop) (hI : Firm w.heap.size I) (hIx : ∀ c, Firm w.heap.size (Ix c)) (h0 : I [] w) (a₁ : α → Act)
    (hassign : ∀ (l : Nat) (x : α) (W : World) (K : Act → World → Prop), K (a₁ x) W →
      assign.wpIn (F.inRound l) (n - 1 - 1) P (Exit.then K (fun _ _ _ => False)) { tmps := (ps.zip (encs x)).foldl (fun t (p, v) => t.setIfInBounds p v) a.tmps, defers := [] } W)
    (hbody : ∀ (l : Nat) (pre : List α) (x : α) (W : World), I pre W → pre.length < N → body.wpIn (F.inRound l) (n - 1 - 1) P (postX w.heap.size T I Ix (pre ++ [x]) W) (a₁ x) W)
    (hdone : ∀ (D : Nat) (xs : List α) (W : World), w.heap.size ≤ D → S xs → I xs W → W.heap[D]? = some (.deferred (some [])) → Q .normal { a with defers := { target := .collected D, args := #[] } :: a.defers } W)
    (hstop : ∀ (D : Nat) (c : Code) (pre : List α) (W : World), w.heap.size ≤ D → Sp pre → Ix c pre W → W.heap[D]? = some (.deferred (some [])) → c.wpIn F n P Q { a with defers := { target := .collected D, args := #[] } :: a.defers } W) :
    (Code.rangeFunc g ps assign body).wpIn F n P Q a w := by
  refine wpIn_rangeFunc fun fn hfn => ?_
  rw [hro]
  -- the loop's record, as a function of its state and its pending jump; the world with both blocks of book-keeping
  let D := w.heap.size
  let L := w.heap.size + 1
  let rec' : LoopState → Option Code → Obj := fun st pe => .loop { state := st, pending := pe, fn, tmps := a.tmps, params := ps, assign, body, defers := D }
  obtain ⟨V, hV⟩ : ∃ V, (w.alloc (.deferred (some []))).alloc (rec' .ready none) = V := ⟨_, rfl⟩
  have sV : V.heap.size = w.heap.size + 2 := by rw [← hV]; simp
  have hL : V.heap[L]? = some (rec' .ready none) := by
    rw [← hV]; have := World.alloc_heap_new (w.alloc (.deferred (some []))) (rec' .ready none); rwa [World.size_alloc] at this
  have hD : V.heap[D]? = some (.deferred (some [])) := by
    rw [← hV]; exact (Below.heap_alloc _ _ _ (by simp [D])).trans (World.alloc_heap_new w _)
  have hIV : I [] V := by rw [← hV]; exact hI.alloc _ (hI.alloc _ h0)
  have hBV : Below w0.heap.size w0 V := by
    rw [← hV]; exact (hb0.alloc hb0.size _).alloc (by simp; have := hb0.size; omega) _
  refine ⟨L, [{ target := .collected D, args := #[] }], V, { target := .fn (.func gf) lb, args := #[.func (.yield L) #[] #[]] }, V, gf, #[.func (.yield L) #[] #[]] ++ lb, V, ?_, ?_, ?_, ?_, fun _ => h1, ?_⟩
  · rw [← hV]; exact run_enterLoop_outer _ _ _ _ _
  · simp only [resolve, hg]; simp [go_sem]
  · intro f' hf'; simp [Target.leads] at hf'; subst hf'; exact hFg
  · simp [invoke, go_sem, eg]
  have fL : ∀ o, Firm (w.heap.size + 2) (fun (_ : List α) W => W.heap[L]? = some o) := fun o => firm_block (by simp [L]) o
  have fD : Firm (w.heap.size + 2) (fun (_ : List α) W => W.heap[D]? = some (.deferred (some []))) := firm_block (by simp [D]) _
  have fI : Firm (w.heap.size + 2) I := hI.mono (by omega)
  refine (hseq L (fun pre W => I pre W ∧ (W.heap[L]? = some (rec' .ready none) ∧ W.heap[D]? = some (.deferred (some []))))
    (fun pre W => ∃ c, Ix c pre W ∧ (W.heap[L]? = some (rec' .done (some c)) ∧ W.heap[D]? = some (.deferred (some []))))
    V hBV (by omega) (fI.and ((fL _).and fD))
    (fun s A B row hs hg' hr => by
      obtain ⟨c, hc, hk⟩ := hs
      exact ⟨c, (hIx c).mono (Nat.le_add_right _ 2) s A B row hc hg' hr, ((fL _).and fD) s A B row hk hg' hr⟩)
    ?_ ⟨hIV, hL, hD⟩).mono ?_
  · -- one round
    rintro pre x W ⟨hi, hl, hd⟩ hlen
    have hlt : L < W.heap.size := (Array.getElem?_eq_some_iff.1 hl).1
    refine ⟨fn, _, assign, body, run_yield (P := P) (args := encs x) hl (hps x), roundIn_of_wpIn hfn (hassign _ x W _ ⟨_, run_beginRound hl rfl, ?_⟩)⟩
    obtain ⟨Wb, hWb⟩ : ∃ Wb, W.putObj L (rec' .busy none) = Wb := ⟨_, rfl⟩
    have hlb : Wb.heap[L]? = some (rec' .busy none) := by rw [← hWb]; exact World.putObj_heap_same hlt
    have hdb : Wb.heap[D]? = some (.deferred (some [])) := by rw [← hWb]; exact (World.putObj_heap_other (by simp [D, L])).trans hd
    have hib : I pre Wb := by rw [← hWb]; exact hI.put _ _ hi (by simp [L])
    have hab : Above T W Wb := by rw [← hWb]; exact Above.put _ _ _ hT
    change body.wpIn _ _ _ _ _ (W.putObj L (rec' .busy none))
    rw [hWb]
    refine wpIn_mono (hbody L pre x Wb hib hlen) ?_
    -- the round's end: the record and the block behind it lie as they lay
    have fin : ∀ (jump : Option Code) (W3 : World), KeepsFrom w.heap.size Wb W3 → Above T Wb W3 →
        ∃ W4, (Instr.endRound L jump).run P W3 = .ok (.bool jump.isNone) W4 ∧ W4.heap[L]? = some (rec' (if jump.isNone then .ready else .done) jump) ∧ W4.heap[D]? = some (.deferred (some [])) ∧ Above T W W4 ∧
          (∀ (J : List α → World → Prop), Firm w.heap.size J → ∀ ys, J ys W3 → J ys W4) := fun jump W3 hk ha => by
      have hl3 := hk.same L _ (by simp [L]) hlb rfl
      have hd3 := hk.same D _ (Nat.le_refl _) hdb rfl
      refine ⟨_, run_endRound (P := P) jump hl3, World.putObj_heap_same (Array.getElem?_eq_some_iff.1 hl3).1, (World.putObj_heap_other (by simp [D, L])).trans hd3, (hab.trans ha).trans (Above.put _ _ _ hT), fun J hJ ys h => hJ.put _ _ h (by simp [L])⟩
    rintro e a3 W3 hp
    cases e with
    | normal =>
      obtain ⟨⟨hk, ha⟩, hi3⟩ := hp
      obtain ⟨W4, hr, hl4, hd4, ha4, hj⟩ := fin none W3 hk ha
      exact ⟨_, _, hr, ha4, .inl ⟨rfl, hj I hI _ hi3, hl4, hd4⟩⟩
    | ret =>
      obtain ⟨⟨hk, ha⟩, hi3⟩ := hp
      obtain ⟨W4, hr, hl4, hd4, ha4, hj⟩ := fin (some .ret) W3 hk ha
      exact ⟨_, _, hr, ha4, .inr ⟨rfl, .ret, hj _ (hIx _) _ hi3, hl4, hd4⟩⟩
    | exit id =>
      obtain ⟨⟨hk, ha⟩, hi3⟩ := hp
      obtain ⟨W4, hr, hl4, hd4, ha4, hj⟩ := fin (some (.exit id)) W3 hk ha
      exact ⟨_, _, hr, ha4, .inr ⟨rfl, .exit id, hj _ (hIx _) _ hi3, hl4, hd4⟩⟩
    | goto t =>
      obtain ⟨⟨hk, ha⟩, hi3⟩ := hp
      obtain ⟨W4, hr, hl4, hd4, ha4, hj⟩ := fin (some (.goto t)) W3 hk ha
      exact ⟨_, _, hr, ha4, .inr ⟨rfl, .goto t, hj _ (hIx _) _ hi3, hl4, hd4⟩⟩
    | panic ch => exact hp.elim
    | outgrown => exact hp.elim
  · -- behind the iterator
    rintro e W2 ⟨⟨v, rfl⟩, (⟨xs, hS, hi, hl, hd⟩ | ⟨pre, hSp, c, hi, hl, hd⟩)⟩
    · exact ⟨none, _, run_endLoop (P := P) hl (by simp), hdone D xs _ (Nat.le_refl _) hS (hI.put _ _ hi (by simp [L])) ((World.putObj_heap_other (by simp [D, L])).trans hd)⟩
    · exact ⟨some c, _, run_endLoop (P := P) hl (by simp), hstop D c pre _ (Nat.le_refl _) hSp ((hIx c).put _ _ hi (by simp [L])) ((World.putObj_heap_other (by simp [D, L])).trans hd)⟩
end Go.Proofs.Ytdgpjpcdifpllaa

/- Z1:
  Chapter 3 as plain words: rows within a row, sums modulo 2, lists of small numbers; spectra, correlations, influences. -/
namespace Go.Proofs.Ytdgpjpcdifpllaa
open Go.RowKit
set_option linter.unusedVariables false
set_option linter.unusedSimpArgs false

/-- The rows all of whose variables r has, ascending. -/
def subsOf (r : Nat) : List Nat := (List.range 16).filter fun w => r &&& w == w
/-- .. those above w. -/
def above (r w : Nat) : List Nat := (subsOf r).filter fun u => Nat.blt w u
/-- The sum modulo 2 of values at a list of rows. -/
def par (v : Nat → Nat) (l : List Nat) : Nat := (l.map v).sum % 2
theorem par_le (v : Nat → Nat) (l : List Nat) : par v l ≤ 1 := by unfold par; omega
theorem par_nil (v : Nat → Nat) : par v [] = 0 := rfl
theorem par_cons (v : Nat → Nat) (w : Nat) (l : List Nat) : par v (w :: l) = (par v l + v w) % 2 := by
  simp only [par, List.map_cons, List.sum_cons]; omega
theorem par_congr {v u : Nat → Nat} {l : List Nat} (h : ∀ w, w ∈ l → v w = u w) : par v l = par u l := by
  unfold par
  rw [List.map_congr_left h]
theorem above_dec : ∀ r < 16, ∀ w < 16, (!(r &&& w == w) || (w == 0) || (above r ((w - 1) &&& r) == w :: above r w && r &&& ((w - 1) &&& r) == (w - 1) &&& r && Nat.blt ((w - 1) &&& r) w)) = true := by decide +kernel
theorem above_step {r w : Nat} (hr : r < 16) (hw : w < 16) (h : r &&& w = w) (h0 : w ≠ 0) : above r ((w - 1) &&& r) = w :: above r w ∧ r &&& ((w - 1) &&& r) = (w - 1) &&& r ∧ (w - 1) &&& r < w := by
  have := above_dec r hr w hw
  simp only [h, beq_self_eq_true, Bool.not_true, Bool.false_or, beq_eq_false_iff_ne.2 h0, Bool.and_eq_true, beq_iff_eq, Nat.blt_eq] at this
  exact ⟨this.1.1, this.1.2, this.2⟩
theorem above_zero : ∀ r, r < 16 → 0 :: above r 0 = subsOf r := by decide +kernel
theorem above_self : ∀ r, r < 16 → above r r = [] ∧ r &&& r = r := by decide +kernel
theorem subs_lt : ∀ n, n < 5 → ∀ r, r < 2 ^ n → ((List.range (2 ^ n)).filter fun w => r &&& w == w) = subsOf r := by decide +kernel
theorem subs_mem : ∀ n, n < 5 → ∀ r, r < 2 ^ n → ∀ w, w ∈ subsOf r → w < 2 ^ n := by decide +kernel
/-- The sum of the values at the rows below k that r has. -/
def hasSum (v : Nat → Nat) (r : Nat) : Nat → Nat
  | 0 => 0
  | k + 1 => hasSum v r k + if r &&& k == k then v k else 0
theorem hasSum_eq (v : Nat → Nat) (r k : Nat) : hasSum v r k = (((List.range k).filter fun w => r &&& w == w).map v).sum := by
  induction k with
  | zero => rfl
  | succ k ih =>
    rw [List.range_succ, List.filter_append, List.map_append, List.sum_append, ← ih, hasSum]
    by_cases h : (r &&& k == k) = true
    · simp [List.filter, h]
    · simp [List.filter, h]
theorem hasSum_le (v : Nat → Nat) (hv : ∀ j, v j ≤ 1) (r k : Nat) : hasSum v r k ≤ k := by
  induction k with
  | zero => exact Nat.le_refl _
  | succ k ih => have := hv k; simp only [hasSum]; split <;> omega
theorem hasSum_par {n : Nat} (hn : n < 5) (v : Nat → Nat) (r : Nat) (hr : r < 2 ^ n) : hasSum v r (2 ^ n) % 2 = par v (subsOf r) := by
  rw [hasSum_eq, subs_lt n hn r hr]; rfl
/-- A list of small numbers. -/
def natL (v : Nat → Nat) (k : Nat) : List Int := (List.range k).map fun j => (v j : Int)
theorem natL_succ (v : Nat → Nat) (k : Nat) : natL v (k + 1) = natL v k ++ [(v k : Int)] := by simp [natL, List.range_succ]
theorem natL_len (v : Nat → Nat) (k : Nat) : (natL v k).length = k := by simp [natL]
theorem natL_get (v : Nat → Nat) (k j : Nat) (h : j < k) : (natL v k)[j]?.getD 0 = (v j : Int) := by simp [natL, h]
theorem natL_congr {v u : Nat → Nat} {k : Nat} (h : ∀ j, j < k → v j = u j) : natL v k = natL u k := by
  unfold natL
  exact List.map_congr_left fun j hj => by rw [h j (List.mem_range.1 hj)]
/-- The number of the variables of a row. -/
def sizeN (w : Nat) : Nat := w % 2 + w / 2 % 2 + w / 4 % 2 + w / 8 % 2
theorem sizeN_step (w : Nat) (h : w < 16) : sizeN w = w % 2 + sizeN (w / 2) := by unfold sizeN; omega
theorem sizeN_le (w : Nat) : sizeN w ≤ 4 := by unfold sizeN; omega
/-- A sum of signs, each turned where a row and w have an odd number of variables together. -/
def spS (s : Nat → Int) (w : Nat) : Nat → Int
  | 0 => 0
  | k + 1 => spS s w k + if sizeN (k &&& w) % 2 = 0 then s k else -(s k)
/-- The sums that take one variable after the other. -/
def fly (s : Nat → Int) : Nat → Nat → Int
  | 0, row => s row
  | i + 1, row => if row / 2 ^ i % 2 = 0 then fly s i row + fly s i (row ^^^ 2 ^ i) else fly s i (row ^^^ 2 ^ i) - fly s i row
theorem lt_cases {P : Nat → Prop} (k : Nat) (h : ∀ j, j < k → P j) (hk : P k) : ∀ j, j < k + 1 → P j := by
  intro j hj
  by_cases e : j = k
  · exact e ▸ hk
  · exact h j (by omega)
theorem fly_0 (s : Nat → Int) : ∀ w, w < 1 → fly s 0 w = spS s w 1 := by
  intro w hw
  obtain rfl : w = 0 := by omega
  simp [fly, spS, sizeN]
theorem fly_1 (s : Nat → Int) : ∀ w, w < 2 → fly s 1 w = spS s w 2 := by
  intro w hw
  rcases (show w = 0 ∨ w = 1 by omega) with rfl | rfl <;> simp [fly, spS, sizeN] <;> omega
theorem fly_2 (s : Nat → Int) : ∀ w, w < 4 → fly s 2 w = spS s w 4 := by
  intro w hw
  rcases (show w = 0 ∨ w = 1 ∨ w = 2 ∨ w = 3 by omega) with rfl | rfl | rfl | rfl <;> simp [fly, spS, sizeN] <;> omega
theorem fly_3 (s : Nat → Int) : ∀ w, w < 8 → fly s 3 w = spS s w 8 := by
  intro w hw
  rcases (show w = 0 ∨ w = 1 ∨ w = 2 ∨ w = 3 ∨ w = 4 ∨ w = 5 ∨ w = 6 ∨ w = 7 by omega) with rfl | rfl | rfl | rfl | rfl | rfl | rfl | rfl <;> simp [fly, spS, sizeN] <;> omega
theorem fly_4 (s : Nat → Int) : ∀ w, w < 16 → fly s 4 w = spS s w 16 := by
  intro w hw
  rcases (show w = 0 ∨ w = 1 ∨ w = 2 ∨ w = 3 ∨ w = 4 ∨ w = 5 ∨ w = 6 ∨ w = 7 ∨ w = 8 ∨ w = 9 ∨ w = 10 ∨ w = 11 ∨ w = 12 ∨ w = 13 ∨ w = 14 ∨ w = 15 by omega) with rfl | rfl | rfl | rfl | rfl | rfl | rfl | rfl | rfl | rfl | rfl | rfl | rfl | rfl | rfl | rfl <;> simp [fly, spS, sizeN] <;> omega
theorem fly_eq {n : Nat} (hn : n < 5) (s : Nat → Int) (w : Nat) (hw : w < 2 ^ n) : fly s n w = spS s w (2 ^ n) := by
  rcases (show n = 0 ∨ n = 1 ∨ n = 2 ∨ n = 3 ∨ n = 4 by omega) with rfl | rfl | rfl | rfl | rfl
  · exact fly_0 s w hw
  · exact fly_1 s w hw
  · exact fly_2 s w hw
  · exact fly_3 s w hw
  · exact fly_4 s w hw
theorem xor_lt {n : Nat} (r : Nat) (hr : r < 2 ^ n) (a : Nat) (ha : a < 2 ^ n) : r ^^^ a < 2 ^ n := Nat.xor_lt_two_pow hr ha
theorem spS_bound (s : Nat → Int) (hs : ∀ k, -1 ≤ s k ∧ s k ≤ 1) (w k : Nat) : -(k : Int) ≤ spS s w k ∧ spS s w k ≤ k := by
  induction k with
  | zero => exact ⟨Int.le_refl _, Int.le_refl _⟩
  | succ k ih =>
    have h := hs k
    simp only [spS]
    split <;> omega
theorem fly_bound (s : Nat → Int) (hs : ∀ k, -1 ≤ s k ∧ s k ≤ 1) (i row : Nat) : -((2 ^ i : Nat) : Int) ≤ fly s i row ∧ fly s i row ≤ ((2 ^ i : Nat) : Int) := by
  induction i generalizing row with
  | zero => have := hs row; simp only [fly]; omega
  | succ i ih =>
    have h1 := ih row
    have h2 := ih (row ^^^ 2 ^ i)
    have e : (2 : Nat) ^ (i + 1) = 2 * 2 ^ i := by rw [Nat.pow_succ]; omega
    rw [e]
    simp only [fly]
    generalize row ^^^ 2 ^ i = rr at *
    generalize (2 : Nat) ^ i = q at *
    split <;> omega
/-- The sign of a value. -/
def sgn (v : Nat → Nat) (r : Nat) : Int := 1 - 2 * (v r : Int)
theorem sgn_bound {v : Nat → Nat} (hv : ∀ r, v r ≤ 1) (r : Nat) : -1 ≤ sgn v r ∧ sgn v r ≤ 1 := by have := hv r; unfold sgn; omega
theorem sgn_turn {v : Nat → Nat} (hv : ∀ r, v r ≤ 1) (k c : Nat) : (1 : Int) - 2 * (((v k + c) % 2 : Nat) : Int) = if c % 2 = 0 then sgn v k else -(sgn v k) := by
  have := hv k
  unfold sgn
  split <;> omega
theorem sgn_mul {v : Nat → Nat} (hv : ∀ r, v r ≤ 1) (k j : Nat) : sgn v k * sgn v j = 1 - 2 * (((v k + v j) % 2 : Nat) : Int) := by
  have h1 := hv k
  have h2 := hv j
  unfold sgn
  rcases (show v k = 0 ∨ v k = 1 by omega) with e | e <;> rcases (show v j = 0 ∨ v j = 1 by omega) with e2 | e2 <;> rw [e, e2] <;> decide
/-- The correlation at a, over the rows below k. -/
def corS (v : Nat → Nat) (a : Nat) : Nat → Int
  | 0 => 0
  | k + 1 => corS v a k + (1 - 2 * (((v k + v (k ^^^ a)) % 2 : Nat) : Int))
theorem corS_bound (v : Nat → Nat) (a k : Nat) : -(k : Int) ≤ corS v a k ∧ corS v a k ≤ k := by
  induction k with
  | zero => exact ⟨Int.le_refl _, Int.le_refl _⟩
  | succ k ih => simp only [corS]; omega
/-- The influence of i, over the rows below k. -/
def infS (v : Nat → Nat) (a : Nat) : Nat → Nat
  | 0 => 0
  | k + 1 => infS v a k + (v k + v (k ^^^ a)) % 2
theorem infS_bound (v : Nat → Nat) (a k : Nat) : infS v a k ≤ k := by
  induction k with
  | zero => exact Nat.le_refl _
  | succ k ih => simp only [infS]; omega
/-- The greatest absolute value below k. -/
def mostS (s : Nat → Int) : Nat → Int
  | 0 => 0
  | k + 1 => max (mostS s k) (max (s k) (-(s k)))
/-- The least absolute value below k, or R. -/
def leastS (s : Nat → Int) (R : Int) : Nat → Int
  | 0 => R
  | k + 1 => min (leastS s R k) (max (s k) (-(s k)))
theorem mostS_bound {s : Nat → Int} {R : Int} (hR : 0 ≤ R) (k : Nat) (hs : ∀ j, j < k → -R ≤ s j ∧ s j ≤ R) : 0 ≤ mostS s k ∧ mostS s k ≤ R := by
  induction k with
  | zero => exact ⟨Int.le_refl _, hR⟩
  | succ k ih =>
    have := ih (fun j hj => hs j (by omega))
    have := hs k (by omega)
    simp only [mostS]; omega
theorem leastS_bound {s : Nat → Int} {R : Int} (hR : 0 ≤ R) (k : Nat) : 0 ≤ leastS s R k ∧ leastS s R k ≤ R := by
  induction k with
  | zero => exact ⟨hR, Int.le_refl _⟩
  | succ k ih => simp only [leastS]; omega
def absI (x : Int) : Int := max x (-x)
theorem mostS_ge (s : Nat → Int) (k j : Nat) (hj : j < k) : absI (s j) ≤ mostS s k := by
  induction k with
  | zero => omega
  | succ k ih =>
    simp only [mostS]
    by_cases e : j = k
    · subst e; unfold absI; omega
    · have := ih (by omega); omega
theorem leastS_le (s : Nat → Int) (R : Int) (k j : Nat) (hj : j < k) : leastS s R k ≤ absI (s j) := by
  induction k with
  | zero => omega
  | succ k ih =>
    simp only [leastS]
    by_cases e : j = k
    · subst e; unfold absI; omega
    · have := ih (by omega); omega
theorem ends_same {s : Nat → Int} {R a : Int} (k : Nat) (h0 : 0 < k) (hR : a ≤ R) (ha : ∀ j, j < k → absI (s j) = a) : mostS s k = a ∧ leastS s R k = a := by
  induction k with
  | zero => omega
  | succ k ih =>
    have hk := ha k (by omega)
    have h1 : 0 ≤ a := by rw [← hk]; unfold absI; omega
    unfold absI at hk
    simp only [mostS, leastS]
    by_cases e : k = 0
    · subst e; simp only [mostS, leastS]; omega
    · have := ih (by omega) (fun j hj => ha j (by omega)); omega
theorem bent_iff {s : Nat → Int} {R : Int} (k : Nat) (h0 : 0 < k) (hs : ∀ j, j < k → -R ≤ s j ∧ s j ≤ R) : (mostS s k == leastS s R k) = ((List.range k).all fun j => absI (s j) == absI (s 0)) := by
  rw [Bool.eq_iff_iff]
  simp only [beq_iff_eq, List.all_eq_true, List.mem_range]
  constructor
  · intro h j hj
    have h1 := mostS_ge s k j hj
    have h2 := leastS_le s R k j hj
    have h3 := mostS_ge s k 0 h0
    have h4 := leastS_le s R k 0 h0
    omega
  · intro h
    have hb := hs 0 h0
    obtain ⟨h1, h2⟩ := ends_same (s := s) (R := R) (a := absI (s 0)) k h0 (by unfold absI; omega) h
    omega
/-- The immunity, by the numbers below k. -/
def immS (s : Nat → Int) (n : Int) : Nat → Int
  | 0 => n
  | k + 1 => if k ≠ 0 ∧ s k ≠ 0 then min (immS s n k) ((sizeN k : Int) - 1) else immS s n k
theorem immS_one (s : Nat → Int) (n : Int) : immS s n 1 = n := by simp [immS]
theorem immS_bound (s : Nat → Int) (n : Int) (hn : n ≤ 4) (hn0 : 0 ≤ n) (k : Nat) : -1 ≤ immS s n k ∧ immS s n k ≤ 4 := by
  induction k with
  | zero => simp only [immS]; omega
  | succ k ih => simp only [immS]; split <;> omega
end Go.Proofs.Ytdgpjpcdifpllaa

/- Z3:
  Chapter 3: the small functions of both packages: rows within rows, sizes of rows, absolute values, codes of pairs. -/
namespace Go.Proofs.Ytdgpjpcdifpllaa
open Go.RowKit
set_option linter.unusedVariables false
set_option linter.unusedSimpArgs false

/-- The polynomial. -/
def polV (x : Nat) (r : Nat) : Nat := par (bitN x) (subsOf r)
theorem polV_le (x r : Nat) : polV x r ≤ 1 := par_le _ _
theorem FOk.n5 {n : Int} {x R : Nat} (ok : FOk n x R) : n.toNat < 5 := by have := ok.h4; omega

theorem beq_cast (a b : Nat) : ((a : Int) == (b : Int)) = (a == b) := by
  rw [Bool.eq_iff_iff, beq_iff_eq, beq_iff_eq]; omega
theorem ones_size (w : Nat) (h : w < 16) : ones w 16 = sizeN w := by
  rw [← ones16_eq]; unfold ones16 sizeN; omega

set_option maxHeartbeats 1000000 in
theorem absolute_any (x : Int) (h1 : -100 ≤ x) (h2 : x ≤ 100) (W : World) :
    Calls Try.prog 267 #[.int .i64 x] W fun e W' => e = .returned (.int .i64 (absI x)) ∧ W = W' := by
  rcases (show x < 0 ∨ 0 ≤ x by omega) with h | h
  · rw [show absI x = -x by unfold absI; omega]
    go_enter Try.func267, Try.ntmps267
    go_wp2
    go_ret
    exact ⟨rfl, rfl⟩
  · rw [show absI x = x by unfold absI; omega]
    go_enter Try.func267, Try.ntmps267
    go_wp2
    go_ret
    exact ⟨rfl, rfl⟩

theorem xor_par (a b : Nat) (ha : a ≤ 1) (hb : b ≤ 1) : bits .xor .i64 (a : Int) (b : Int) = (((a + b) % 2 : Nat) : Int) := by
  obtain rfl | rfl : a = 0 ∨ a = 1 := by omega
  all_goals obtain rfl | rfl : b = 0 ∨ b = 1 := by omega
  all_goals decide
end Go.Proofs.Ytdgpjpcdifpllaa
