/-
  The texts C1, C2, L3, L4, T1, V1, H1, L5, H2, H3, V2, V3, FNewDesk in one.
-/
import Derived.Test.YtdgpjpcdifpllaaMPIsDesk4
import Derived.Lib.Bytealg
import Derived.Lib.IndexLaws
import Derived.Laws.CopyOwn
import Derived.WalkLawsBesides

/- C1:
  ProjectionOf in both packages. -/
namespace Go.Proofs.Ytdgpjpcdifpllaa
open Go.RowKit

set_option maxRecDepth 100000 in
set_option maxHeartbeats 2000000 in
theorem l01Projection_any {n : Int} {R : Nat} (h0 : 0 ≤ n) (h4 : n ≤ 4) (r0 : 0 < R) (r16 : R ≤ 16) (hR : Hid (rowsN n = (R : Int))) (i : Nat) (hi16 : i < 16) (w : World) :
    Calls Try.prog 197 #[.int .i64 n, .int .i64 (i : Int)] w fun e w' => e = .returned (.agg #[.int .i64 n, .int .i64 (sumN (fun r => bitN r i) R : Int)]) ∧ Below w.heap.size w w' := by
  obtain ⟨i0, hi, hz0, hz1, hz2⟩ := info_parts infoI
  go_enter Try.func197, Try.ntmps197
  go_wp2
  obtain ⟨W1, hW1⟩ : ∃ W1, w.alloc (.cells #[.int .i64 0, .int .i64 0] 23) = W1 := ⟨_, rfl⟩
  have hs1 : W1.heap.size = w.heap.size + 1 := by rw [← hW1]; simp
  have c00 : W1.cell? ⟨w.heap.size, 0, none⟩ = some (.int .i64 0) := by rw [← hW1]; simp [go_sem]
  have c01 : W1.cell? ⟨w.heap.size, 1, none⟩ = some (.int .i64 0) := by rw [← hW1]; simp [go_sem]
  have f00 : W1.frozen? ⟨w.heap.size, 0, none⟩ = false := by rw [← hW1]; simp [go_sem]
  have f01 : W1.frozen? ⟨w.heap.size, 1, none⟩ = false := by rw [← hW1]; simp [go_sem]
  have hB1 : Below w.heap.size w W1 := by rw [← hW1]; exact bnew _ _
  rw [hW1]
  clear hW1
  go_loopw [5, 6] (fun s i' wr => ∃ k : Nat, k ≤ R ∧ i' = .int .i64 k ∧ wr.ownsRow W1.heap.size 2 1 s k (valsN (fun r => bitN r i) k) ∧ Below W1.heap.size W1 wr)
    (fun _ i' _ => R - (intOf i').toNat)
  case atStart => exact ⟨0, Nat.zero_le _, rfl, by rw [← hs1]; exact World.ownsRow_lit W1 #[] 0 (Nat.le_refl _) (by decide) rfl, bnew _ _⟩
  case round =>
    obtain ⟨k, hk, rfl, hown, hN⟩ := hrel
    have hsz := hN.size
    have hE := Lib.hid hs1
    clear hs1
    by_cases hlt : k < R
    · have E := digit_eq k i (by omega)
      go_wp2_with (first
        | (go_at_call 106; refine (l01Rows_is h0 h4 hR _).mono ?_; rintro e w' ⟨rfl, rfl⟩)
        | (at_builtin; refine wpList_append_own _ rfl _ _ 55 rfl W1.heap.size 2 i0 (.int .i64 0) 1 8 Try.underlying55 hi hz0 hz1 hz2 rfl (by decide) _ _ _ rfl (hown.alloc _) ⟨wr.heap.size, 0, none⟩ 1 1 [.int .i64 (bitN k i : Int)] rfl rfl (cell_one_new _ _ _) (one_cell_int _) (by unfold maxLen; omega) (by omega) (by simp; omega) ?_))
      intro v' w1 hown' hgrow _
      have hN' := (balloc hN (.cells #[.int .i64 (bitN k i : Int)] 2)).grown hgrow (by simp; omega) (fun j e => (hown.lt j e).1)
      clear hgrow hown hN E
      go_wp2
      go_roundw
      case rel => exact ⟨k + 1, by omega, by go_num, by rw [valsN_succ]; exact hown', hN'⟩
      case measure => simp [intOf]; omega
    · obtain rfl : k = R := by omega
      obtain ⟨g, cap, rfl, hg, hc⟩ := owned_slice r0 hown
      have d00 := (hN.cell (p := ⟨w.heap.size, 0, none⟩) (by rw [hE.out]; simp)).trans c00
      have d01 := (hN.cell (p := ⟨w.heap.size, 1, none⟩) (by rw [hE.out]; simp)).trans c01
      have g00 := (hN.frozen (p := ⟨w.heap.size, 0, none⟩) (by rw [hE.out]; simp)).trans f00
      have g01 := (hN.frozen (p := ⟨w.heap.size, 1, none⟩) (by rw [hE.out]; simp)).trans f01
      have hB2 := bthen hB1 hN
      clear hown hN c00 c01 f00 f01 hB1
      go_wp2_with (first
        | (go_at_call 106; refine (l01Rows_is h0 h4 hR _).mono ?_; rintro e w' ⟨rfl, rfl⟩)
        | (go_at_call 200; refine (l01Of_any h0 h4 r0 r16 hR g cap (fun r => bitN r i) (fun r _ => bitN_le r i) _ hg hc).mono ?_; rintro e w3 ⟨rfl, hb3⟩; have e00 := kc hb3 d00; have e01 := kc hb3 d01; have k00 := kf hb3 d00 g00; have k01 := kf hb3 d01 g01; have hB3 := bthen hB2 hb3))
      exact bodyPost_ret (v := .agg #[.int .i64 n, .int .i64 (sumN (fun r => bitN r i) k : Int)]) (by simp [results, Try.results197, go_sem, e00, e01]) rfl ⟨rfl, (hB3.setCell (p := ⟨w.heap.size, 0, none⟩) (by simp) _).setCell (p := ⟨w.heap.size, 1, none⟩) (by simp) _⟩
set_option maxHeartbeats 400000 in
theorem isVariable_any (n i : Int) (w : World) :
    Calls Try.prog 155 #[.int .i64 n, .int .i64 i] w fun e w' => e = .returned (.bool (inB i 0 (n - 1))) ∧ w = w' := by
  by_cases h1 : 0 ≤ i
  · by_cases h2 : i < n
    · rw [inB_true h1 (by omega)]
      go_enter Try.func155, Try.ntmps155
      go_wp2
      go_ret
      exact ⟨rfl, rfl⟩
    · rw [inB_false (by omega)]
      go_enter Try.func155, Try.ntmps155
      go_wp2
      go_ret
      exact ⟨rfl, rfl⟩
  · rw [inB_false (by omega)]
    go_enter Try.func155, Try.ntmps155
    go_wp2
    go_ret
    exact ⟨rfl, rfl⟩
theorem isVariable_is {n i : Int} {x : Bool} (h : inB i 0 (n - 1) = x) (w : World) :
    Calls Try.prog 155 #[.int .i64 n, .int .i64 i] w fun e w' => e = .returned (.bool x) ∧ w = w' := h ▸ isVariable_any n i w

end Go.Proofs.Ytdgpjpcdifpllaa

/- C2:
  ConstantOf in both packages. -/
namespace Go.Proofs.Ytdgpjpcdifpllaa
open Go.RowKit

set_option maxHeartbeats 400000 in
theorem isDigit_any (v : Int) (w : World) :
    Calls Try.prog 165 #[.int .i64 v] w fun e w' => e = .returned (.bool (inB v 0 1)) ∧ w = w' := by
  by_cases h1 : v = 0
  · subst h1
    rw [inB_true (by omega) (by omega)]
    go_enter Try.func165, Try.ntmps165
    go_wp2
    go_ret
    exact ⟨rfl, rfl⟩
  · have e0 : (v == 0) = false := by simp [h1]
    by_cases h2 : v = 1
    · subst h2
      rw [inB_true (by omega) (by omega)]
      go_enter Try.func165, Try.ntmps165
      go_wp2
      go_ret
      exact ⟨rfl, rfl⟩
    · have e1 : (v == 1) = false := by simp [h2]
      rw [inB_false (by omega)]
      go_enter Try.func165, Try.ntmps165
      go_wp2
      go_ret
      exact ⟨rfl, rfl⟩
theorem isDigit_is {v : Int} {x : Bool} (h : inB v 0 1 = x) (w : World) :
    Calls Try.prog 165 #[.int .i64 v] w fun e w' => e = .returned (.bool x) ∧ w = w' := h ▸ isDigit_any v w

set_option maxHeartbeats 400000 in
theorem Constant1_any (b r : Nat) (v : Int) (w : World) (hc : w.cell? ⟨b, 0, none⟩ = some (.int .i64 v)) :
    Calls Try.prog 272 #[.int .i64 (r : Int), .pointer (some ⟨b, 0, none⟩)] w fun e w' => e = .returned (.int .i64 v) ∧ Below w.heap.size w w' := by
  go_enter Try.func272, Try.ntmps272
  go_wp2
  go_ret
  exact ⟨rfl, Below.refl _ _⟩

set_option maxRecDepth 100000 in
set_option maxHeartbeats 1000000 in
theorem implConstantOf_yes {n : Int} {R : Nat} (h0 : 0 ≤ n) (h4 : n ≤ 4) (r0 : 0 < R) (r16 : R ≤ 16) (hR : Hid (rowsN n = (R : Int))) (he : R = 2 ^ n.toNat) (v : Nat) (hv : v ≤ 1) (w : World) :
    Calls Try.prog 245 #[.int .i64 n, .int .i64 (v : Int)] w fun e w' => e = .returned (.tuple #[.agg #[.int .i64 n, .int .i64 (v * allN n)], .int .i64 0]) ∧ Below w.heap.size w w' := by
  have H1 : inB n 0 4 = true := inB_true (by omega) h4
  have H2 : inB (v : Int) 0 1 = true := inB_true (by omega) (by omega)
  obtain ⟨W1, hW1⟩ : ∃ W1, (w.alloc (.cells #[.int .i64 (v : Int)] 2)).alloc (.cells #[.int .i64 0, .int .i64 0] 23) = W1 := ⟨_, rfl⟩
  have cI : W1.cell? ⟨w.heap.size, 0, none⟩ = some (.int .i64 (v : Int)) := by rw [← hW1]; simp [go_sem]
  have c0 : W1.cell? ⟨w.heap.size + 1, 0, none⟩ = some (.int .i64 0) := by rw [← hW1]; simp [go_sem]
  have c1 : W1.cell? ⟨w.heap.size + 1, 1, none⟩ = some (.int .i64 0) := by rw [← hW1]; simp [go_sem]
  have f0 : W1.frozen? ⟨w.heap.size + 1, 0, none⟩ = false := by rw [← hW1]; simp [go_sem]
  have f1 : W1.frozen? ⟨w.heap.size + 1, 1, none⟩ = false := by rw [← hW1]; simp [go_sem]
  have hB : Below w.heap.size w W1 := by rw [← hW1]; exact balloc (bnew _ _) _
  have F := Lib.hid (funcByRows_any n (by omega) h4 R r0 r16 hR 272 #[.pointer (some ⟨w.heap.size, 0, none⟩)] (enters_of Try.func272 (by kernel_rfl) rfl)
    (fun _ => v) (fun _ _ => hv) W1 (Lib.hid fun W hW r _ => Constant1_any w.heap.size r v W (kc hW cI)))
  rw [orBits_sum r0 _ (fun _ _ => hv), sum_const he hv] at F
  clear he
  go_enter Try.func245, Try.ntmps245
  go_wp2_with (first
    | (go_at_call 143; refine (isArity_is H1 _).mono ?_; rintro e w' ⟨rfl, rfl⟩)
    | (go_at_call 165; refine (isDigit_is H2 _).mono ?_; rintro e w' ⟨rfl, rfl⟩)
    | (go_at_call 189; refine F.out.mono ?_; rintro e w3 ⟨rfl, hb3⟩; have e0 := kc hb3 c0; have e1 := kc hb3 c1; have k0 := kf hb3 c0 f0; have k1 := kf hb3 c1 f1; have hB3 := bthen hB hb3))
  exact bodyPost_ret (v := .tuple #[.agg #[.int .i64 n, .int .i64 (v * allN n)], .int .i64 0]) (by simp [results, Try.results245, go_sem, e0, e1]) rfl ⟨rfl, (hB3.setCell (p := ⟨w.heap.size + 1, 0, none⟩) (by simp) _).setCell (p := ⟨w.heap.size + 1, 1, none⟩) (by simp) _⟩

set_option maxRecDepth 100000 in
set_option maxHeartbeats 1000000 in
theorem implConstantOf_no {n i : Int} (h : ¬ (0 ≤ n ∧ n ≤ 4 ∧ 0 ≤ i ∧ i ≤ 1)) (w : World) :
    Calls Try.prog 245 #[.int .i64 n, .int .i64 i] w fun e w' => e = .returned (.tuple #[.agg #[.int .i64 0, .int .i64 0], .int .i64 2]) ∧ Below w.heap.size w w' := by
  have hB := balloc (bnew w (.cells #[.int .i64 i] 2)) (.cells #[.int .i64 0, .int .i64 0] 23)
  generalize h1 : inB n 0 4 = x
  cases x
  · go_enter Try.func245, Try.ntmps245
    go_wp2_with (first
      | (go_at_call 143; refine (isArity_is h1 _).mono ?_; rintro e w' ⟨rfl, rfl⟩))
    exact bodyPost_ret (v := .tuple #[.agg #[.int .i64 0, .int .i64 0], .int .i64 2]) (by simp [results, Try.results245, go_sem]) rfl ⟨rfl, hB⟩
  · have h2 : inB i 0 1 = false := inB_false (by simp [inB] at h1; omega)
    go_enter Try.func245, Try.ntmps245
    go_wp2_with (first
      | (go_at_call 143; refine (isArity_is h1 _).mono ?_; rintro e w' ⟨rfl, rfl⟩)
      | (go_at_call 165; refine (isDigit_is h2 _).mono ?_; rintro e w' ⟨rfl, rfl⟩))
    exact bodyPost_ret (v := .tuple #[.agg #[.int .i64 0, .int .i64 0], .int .i64 2]) (by simp [results, Try.results245, go_sem]) rfl ⟨rfl, hB⟩

set_option maxRecDepth 100000 in
set_option maxHeartbeats 1000000 in
theorem l01Constant_any {n : Int} (h0 : 0 ≤ n) (h4 : n ≤ 4) (v : Nat) (hv : v ≤ 1) (w : World) :
    Calls Try.prog 198 #[.int .i64 n, .int .i64 (v : Int)] w fun e w' => e = .returned (.agg #[.int .i64 n, .int .i64 (v * allN n)]) ∧ Below w.heap.size w w' := by
  obtain ⟨ha, hb⟩ := allN_bd h0 h4
  have hB := bnew w (.cells #[.int .i64 0, .int .i64 0] 23)
  have hm : wrap64 (v * allN n) = v * allN n := by
    rcases (show v = 0 ∨ v = 1 by omega) with rfl | rfl <;> exact IntWalk.wrap64_in _ ⟨by omega, by omega⟩
  go_enter Try.func198, Try.ntmps198
  go_wp2_with (go_at_call 85; refine (l01All_any _ h0 h4 _).mono ?_; rintro e w' ⟨rfl, rfl⟩)
  exact bodyPost_ret (v := .agg #[.int .i64 n, .int .i64 (v * allN n)]) (by simp [results, Try.results198, go_sem]) rfl ⟨rfl, bnew _ _⟩

end Go.Proofs.Ytdgpjpcdifpllaa

/- L3:
  Lists of digits, and rows of arguments. -/
namespace Go.Proofs.Ytdgpjpcdifpllaa
open Go.RowKit

set_option maxRecDepth 100000 in
set_option maxHeartbeats 1000000 in
theorem areDigits_any {base : Nat} {s : Value} {xs : List Int} (hl : xs.length ≤ 1048576) (w : World) (h : Owns w base s xs) :
    Calls Try.prog 187 #[s] w fun e w' => e = .returned (.bool (xs.all fun v => inB v 0 1)) ∧ w = w' := by
  rcases h.shape with ⟨rfl, a, cap, rfl⟩ | ⟨hn, g, cap, rfl, hbg, hg, hc, hf⟩
  · go_enter Try.func187, Try.ntmps187
    go_wp2
    refine wp_loop_rounds 1 ?_
    rw [rounds_succ]
    go_wp2
    go_ret
    exact ⟨rfl, rfl⟩
  · clear h hf
    have hall : ∀ k, k ≤ xs.length → (∀ j, j < k → inB (xs[j]?.getD 0) 0 1 = true) → (k = xs.length → (xs.all fun v => inB v 0 1) = true) := by
      intro k _ h1 h2
      rw [List.all_eq_true]
      intro v hv
      obtain ⟨j, hj, rfl⟩ := List.mem_iff_getElem.1 hv
      have := h1 j (by omega)
      rwa [List.getElem?_eq_getElem hj] at this
    have hnot : ∀ k, k < xs.length → inB (xs[k]?.getD 0) 0 1 = false → (xs.all fun v => inB v 0 1) = false := by
      intro k hk h1
      rw [List.all_eq_false]
      exact ⟨xs[k], List.getElem_mem hk, by rw [List.getElem?_eq_getElem hk] at h1; simpa using h1⟩
    generalize hA : (xs.all fun v => inB v 0 1) = A at hall hnot ⊢
    have HALL := Lib.hid hall
    have HNOT := Lib.hid hnot
    clear hall hnot hA
    generalize xs.length = n at hl hn hc HALL HNOT ⊢
    go_enter Try.func187, Try.ntmps187
    go_wp2
    go_loop [7] (fun i' => ∃ i : Nat, i ≤ n ∧ i' = .int .i64 i ∧ Hid (∀ j, j < i → inB (xs[j]?.getD 0) 0 1 = true)) (fun i' => n - (intOf i').toNat)
    case atStart => exact ⟨0, Nat.zero_le _, rfl, Lib.hid (fun j hj => by omega)⟩
    case round =>
      obtain ⟨i, hi, rfl, HI⟩ := hrel
      by_cases hlt : i < n
      · have hu := hc.out i hlt
        cases hb : inB (xs[i]?.getD 0) 0 1
        · have hA := Lib.hid (HNOT.out i hlt hb)
          go_wp2_with (go_at_call 165; refine (isDigit_is hb _).mono ?_; rintro e w' ⟨rfl, rfl⟩)
          go_ret
          exact ⟨by rw [hA.out]; rfl, rfl⟩
        · have HI2 : Hid (∀ j, j < i + 1 → inB (xs[j]?.getD 0) 0 1 = true) := Lib.hid (fun j hj => by
            by_cases hji : j = i
            · rw [hji]; exact hb
            · exact HI.out j (by omega))
          go_wp2_with (go_at_call 165; refine (isDigit_is hb _).mono ?_; rintro e w' ⟨rfl, rfl⟩)
          go_round
          case rel => exact ⟨i + 1, by omega, by go_num, HI2⟩
          case measure => simp [intOf]; omega
      · obtain rfl : i = n := by omega
        have hA := Lib.hid (HALL.out i (Nat.le_refl _) HI.out rfl)
        go_wp2
        go_ret
        exact ⟨by rw [hA.out]; rfl, rfl⟩

set_option maxRecDepth 100000 in
set_option maxHeartbeats 1000000 in
theorem l01Bits_any {base : Nat} {s : Value} {xs : List Int} (hl : xs.length ≤ 1048576) (w : World) (h : Owns w base s xs) :
    Calls Try.prog 248 #[s] w fun e w' => e = .returned (.bool (xs.all fun v => inB v 0 1)) ∧ w = w' := by
  rcases h.shape with ⟨rfl, a, cap, rfl⟩ | ⟨hn, g, cap, rfl, hbg, hg, hc, hf⟩
  · go_enter Try.func248, Try.ntmps248
    go_wp2
    refine wp_loop_rounds 1 ?_
    rw [rounds_succ]
    go_wp2
    go_ret
    exact ⟨rfl, rfl⟩
  · clear h hf
    have hall : ∀ k, k ≤ xs.length → (∀ j, j < k → inB (xs[j]?.getD 0) 0 1 = true) → (k = xs.length → (xs.all fun v => inB v 0 1) = true) := by
      intro k _ h1 h2
      rw [List.all_eq_true]
      intro v hv
      obtain ⟨j, hj, rfl⟩ := List.mem_iff_getElem.1 hv
      have := h1 j (by omega)
      rwa [List.getElem?_eq_getElem hj] at this
    have hnot : ∀ k, k < xs.length → inB (xs[k]?.getD 0) 0 1 = false → (xs.all fun v => inB v 0 1) = false := by
      intro k hk h1
      rw [List.all_eq_false]
      exact ⟨xs[k], List.getElem_mem hk, by rw [List.getElem?_eq_getElem hk] at h1; simpa using h1⟩
    generalize hA : (xs.all fun v => inB v 0 1) = A at hall hnot ⊢
    have HALL := Lib.hid hall
    have HNOT := Lib.hid hnot
    clear hall hnot hA
    generalize xs.length = n at hl hn hc HALL HNOT ⊢
    go_enter Try.func248, Try.ntmps248
    go_wp2
    go_loop [3] (fun i' => ∃ i : Nat, i ≤ n ∧ i' = .int .i64 i ∧ Hid (∀ j, j < i → inB (xs[j]?.getD 0) 0 1 = true)) (fun i' => n - (intOf i').toNat)
    case atStart => exact ⟨0, Nat.zero_le _, rfl, Lib.hid (fun j hj => by omega)⟩
    case round =>
      obtain ⟨i, hi, rfl, HI⟩ := hrel
      by_cases hlt : i < n
      · have hu := hc.out i hlt
        cases hb : inB (xs[i]?.getD 0) 0 1
        · have hA := Lib.hid (HNOT.out i hlt hb)
          go_wp2_with (go_at_call 84; refine (l01In_is hb _).mono ?_; rintro e w' ⟨rfl, rfl⟩)
          go_ret
          exact ⟨by rw [hA.out]; rfl, rfl⟩
        · have HI2 : Hid (∀ j, j < i + 1 → inB (xs[j]?.getD 0) 0 1 = true) := Lib.hid (fun j hj => by
            by_cases hji : j = i
            · rw [hji]; exact hb
            · exact HI.out j (by omega))
          go_wp2_with (go_at_call 84; refine (l01In_is hb _).mono ?_; rintro e w' ⟨rfl, rfl⟩)
          go_round
          case rel => exact ⟨i + 1, by omega, by go_num, HI2⟩
          case measure => simp [intOf]; omega
      · obtain rfl : i = n := by omega
        have hA := Lib.hid (HALL.out i (Nat.le_refl _) HI.out rfl)
        go_wp2
        go_ret
        exact ⟨by rw [hA.out]; rfl, rfl⟩
end Go.Proofs.Ytdgpjpcdifpllaa

/- L4:
  Rows of arguments, in both packages. -/
namespace Go.Proofs.Ytdgpjpcdifpllaa
open Go.RowKit

theorem w64 (x : Int) : wrap64 x = IntKind.i64.wrap x := by
  simp [wrap64, IntKind.wrap, IntKind.bits, IntKind.signed]
  split <;> omega

theorem or_sum (v : Nat → Nat) (k : Nat) (hk : k < 16) (hv : ∀ r, r < k + 1 → v r ≤ 1) : bits .or .i64 (sumN v k : Int) (wrap64 ((v k : Int) * 2 ^ k)) = (sumN v (k + 1) : Int) := by
  rw [w64]
  have h := sumN_lt v k (fun r hr => hv r (by omega))
  have h2 : (2 : Nat) ^ k ≤ 2 ^ 16 := Nat.pow_le_pow_right (by decide) (by omega)
  rw [or_step _ _ _ (by omega) (hv k (by omega)) hk, Nat.or_comm, ← Nat.shiftLeft_add_eq_or_of_lt h, Nat.shiftLeft_eq, sumN, Nat.add_comm]

set_option maxRecDepth 100000 in
set_option maxHeartbeats 1000000 in
theorem rowWith_any (m : Nat) (hm : m ≤ 4) (g : Nat) (cap : Array Value) (eg : ∀ args w, (callFunc g args).run Try.prog w = .ok (.enter g args) w) (v : Nat → Nat) (hv : ∀ i, i < m → v i ≤ 1) (w : World)
    (hval : Hid (∀ W, Below w.heap.size w W → ∀ i : Nat, i < m → Calls Try.prog g (#[.int .i64 (i : Int)] ++ cap) W fun e W' => e = .returned (.int .i64 (v i : Int)) ∧ Below W.heap.size W W')) :
    Calls Try.prog 153 #[.int .i64 (m : Int), .func (.func g) #[] cap] w fun e w' => e = .returned (.int .i64 (sumN v m : Int)) ∧ Below w.heap.size w w' := by
  go_enter Try.func153, Try.ntmps153
  go_wp2
  go_loopw [5, 8] (fun q i' wr => ∃ i : Nat, i ≤ m ∧ i' = .int .i64 i ∧ q = .int .i64 (sumN v i : Int) ∧ Below w.heap.size w wr) (fun _ i' _ => m - (intOf i').toNat)
  case atStart => exact ⟨0, Nat.zero_le _, rfl, rfl, Below.refl _ _⟩
  case round =>
    obtain ⟨i, hi, rfl, rfl, hB⟩ := hrel
    by_cases hlt : i < m
    · have HO := Lib.hid (or_sum v i (by omega) (fun r hr => hv r (by omega)))
      go_wp2_with fail
      refine (hval.out _ hB i hlt).mono ?_
      rintro e w' ⟨rfl, hb⟩
      have hB' := bthen hB hb
      go_wp2
      go_roundw
      case rel => exact ⟨i + 1, by omega, by go_num, by rw [HO.out], hB'⟩
      case measure => simp [intOf]; omega
    · obtain rfl : i = m := by omega
      go_wp2
      go_ret
      exact ⟨rfl, hB⟩

/-- The digits of a list. -/
def dig (xs : List Int) (i : Nat) : Nat := (xs[i]?.getD 0).toNat
theorem dig_ok {xs : List Int} (h : (xs.all fun v => inB v 0 1) = true) (i : Nat) (hi : i < xs.length) : dig xs i ≤ 1 ∧ xs[i]?.getD 0 = (dig xs i : Int) := by
  have := List.all_eq_true.1 h xs[i] (List.getElem_mem hi)
  have h2 : 0 ≤ xs[i] ∧ xs[i] ≤ 1 := by simpa [inB] using this
  unfold dig
  rw [List.getElem?_eq_getElem hi]
  exact ⟨by simp; omega, by simp; omega⟩

theorem sum_fin' (v : Nat → Nat) (k : Nat) (hk : k < 16) (hv : ∀ r, r < k + 1 → v r ≤ 1) : wrap64 ((sumN v k : Int) + wrap64 ((v k : Int) * 2 ^ k)) = (sumN v (k + 1) : Int) := by
  rw [w64, w64]
  obtain ⟨s1, s2, s3, _⟩ := sum_step v k hk hv
  rw [s1, s2]
  exact wrap64_small (by omega) (by omega)

end Go.Proofs.Ytdgpjpcdifpllaa

/- T1:
  Texts of functions, read by the model: l01Read. -/
namespace Go.Proofs.Ytdgpjpcdifpllaa
open Go.RowKit
set_option linter.unusedVariables false

/-- The byte at a place. -/
def bt (s : ByteArray) (k : Nat) : Nat := if h : k < s.size then s[k].toNat else 0
theorem bt_eq {s : ByteArray} {k : Nat} (h : k < s.size) : (s[k].toNat : Int) = (bt s k : Int) := by simp [bt, h]
theorem bt_lt (s : ByteArray) (k : Nat) : bt s k < 256 := by
  unfold bt
  split
  · exact UInt8.toNat_lt _
  · decide

/-- The values that a text tells, the first j of them. -/
def xsTo (s : ByteArray) (j : Nat) : List Int := (List.range j).map fun r => (bt s (r + 2) : Int) - 48
theorem xsTo_succ (s : ByteArray) (j : Nat) : xsTo s (j + 1) = xsTo s j ++ [(bt s (j + 2) : Int) - 48] := by simp [xsTo, List.range_succ]
theorem xsTo_len (s : ByteArray) (j : Nat) : (xsTo s j).length = j := by simp [xsTo]
/-- The arity that a text tells. -/
def txN (s : ByteArray) : Int := (bt s 0 : Int) - 48

set_option maxRecDepth 100000 in
set_option maxHeartbeats 2000000 in
theorem l01Read_short (s : ByteArray) (hs : s.size ≤ 1048576) (h : s.size < 3 ∨ (3 ≤ s.size ∧ bt s 1 ≠ 58)) (w : World) :
    Calls Try.prog 202 #[.string s] w fun e w' => e = .returned (.tuple #[.agg #[.int .i64 0, .int .i64 0], .bool false]) ∧ Below w.heap.size w w' := by
  rcases h with h | ⟨h, h1⟩
  · go_enter Try.func202, Try.ntmps202
    go_wp2
    exact bodyPost_ret (v := .tuple #[.agg #[.int .i64 0, .int .i64 0], .bool false]) (by simp [results, Try.results202, go_sem]) rfl ⟨rfl, bnew _ _⟩
  · have hb := bt_eq (s := s) (k := 1) (by omega)
    have hne : ((bt s 1 : Int) != 58) = true := by simp; omega
    go_enter Try.func202, Try.ntmps202
    go_wp2
    exact bodyPost_ret (v := .tuple #[.agg #[.int .i64 0, .int .i64 0], .bool false]) (by simp [results, Try.results202, go_sem]) rfl ⟨rfl, bnew _ _⟩

set_option maxRecDepth 100000 in
set_option maxHeartbeats 2000000 in
theorem l01Read_arity (s : ByteArray) (hs : s.size ≤ 1048576) (h : 3 ≤ s.size) (h1 : bt s 1 = 58) (hn : inB (txN s) 0 4 = false) (w : World) :
    Calls Try.prog 202 #[.string s] w fun e w' => e = .returned (.tuple #[.agg #[.int .i64 0, .int .i64 0], .bool false]) ∧ Below w.heap.size w w' := by
  have hb := bt_eq (s := s) (k := 1) (by omega)
  have hb0 := bt_eq (s := s) (k := 0) (by omega)
  have hne : ((bt s 1 : Int) != 58) = false := by simp [h1]
  have hlt := bt_lt s 0
  unfold txN at hn
  clear h1
  go_enter Try.func202, Try.ntmps202
  go_wp2_with (go_at_call 84; refine (l01In_is hn _).mono ?_; rintro e w' ⟨rfl, rfl⟩)
  exact bodyPost_ret (v := .tuple #[.agg #[.int .i64 0, .int .i64 0], .bool false]) (by simp [results, Try.results202, go_sem]) rfl ⟨rfl, balloc (bnew _ _) _⟩

set_option maxRecDepth 100000 in
set_option maxHeartbeats 2000000 in
theorem l01Read_len (s : ByteArray) (hs : s.size ≤ 1048576) (h : 3 ≤ s.size) (h1 : bt s 1 = 58) (hn : inB (txN s) 0 4 = true) {R : Nat} (hR : Hid (rowsN (txN s) = (R : Int))) (r16 : R ≤ 16) (hz : s.size ≠ 2 + R) (w : World) :
    Calls Try.prog 202 #[.string s] w fun e w' => e = .returned (.tuple #[.agg #[.int .i64 0, .int .i64 0], .bool false]) ∧ Below w.heap.size w w' := by
  have hb := bt_eq (s := s) (k := 1) (by omega)
  have hb0 := bt_eq (s := s) (k := 0) (by omega)
  have hne : ((bt s 1 : Int) != 58) = false := by simp [h1]
  have hlt := bt_lt s 0
  have hn2 : 0 ≤ txN s ∧ txN s ≤ 4 := by simpa [inB] using hn
  have hze : ((s.size : Int) != 2 + (R : Int)) = true := by simp; omega
  have RW := Lib.hid (fun W => l01Rows_is hn2.1 hn2.2 hR W)
  unfold txN at hn RW
  clear h1 hz hn2
  go_enter Try.func202, Try.ntmps202
  go_wp2_with (first
    | (go_at_call 84; refine (l01In_is hn _).mono ?_; rintro e w' ⟨rfl, rfl⟩)
    | (go_at_call 106; refine (RW.out _).mono ?_; rintro e w' ⟨rfl, rfl⟩))
  exact bodyPost_ret (v := .tuple #[.agg #[.int .i64 0, .int .i64 0], .bool false]) (by simp [results, Try.results202, go_sem]) rfl ⟨rfl, balloc (bnew _ _) _⟩

/-- What l01Read answers at a text of the right length. -/
def ReadPost (ok : Bool) (n b : Int) (w : World) (e : Ending) (w' : World) : Prop := e = .returned (.tuple #[.agg #[.int .i64 (if ok then n else 0), .int .i64 (if ok then b else 0)], .bool ok]) ∧ Below w.heap.size w w'

set_option maxRecDepth 100000 in
set_option maxHeartbeats 4000000 in
theorem l01Read_long (s : ByteArray) (hs : s.size ≤ 1048576) (h : 3 ≤ s.size) (h1 : bt s 1 = 58) (hn : inB (txN s) 0 4 = true) {R : Nat} (r0 : 0 < R) (hR : Hid (rowsN (txN s) = (R : Int))) (r16 : R ≤ 16) (hz : s.size = 2 + R) (b : Bool) (hbb : ((xsTo s R).all fun v => inB v 0 1) = b) (w : World) :
    Calls Try.prog 202 #[.string s] w (ReadPost b (txN s) (sumN (dig (xsTo s R)) R : Int) w) := by
  obtain ⟨i0, hinf, hz0, hz1, hz2⟩ := info_parts infoI
  have hb := bt_eq (s := s) (k := 1) (by omega)
  have hb0 := bt_eq (s := s) (k := 0) (by omega)
  have hne : ((bt s 1 : Int) != 58) = false := by simp [h1]
  have hlt0 := bt_lt s 0
  have hn2 : 0 ≤ txN s ∧ txN s ≤ 4 := by simpa [inB] using hn
  have hze : ((s.size : Int) != 2 + (R : Int)) = false := by simp; omega
  have RW := Lib.hid (fun W => l01Rows_is hn2.1 hn2.2 hR W)
  have OF := Lib.hid (fun g cap W => l01Of_any hn2.1 hn2.2 r0 r16 hR g cap (dig (xsTo s R)) (w := W))
  have HBB := Lib.hid hbb
  unfold txN at hn RW OF
  unfold txN
  obtain ⟨W1, hW1⟩ : ∃ W1, w.alloc (.cells #[.int .i64 0, .int .i64 0] 23) = W1 := ⟨_, rfl⟩
  have c0 : W1.cell? ⟨w.heap.size, 0, none⟩ = some (.int .i64 0) := by rw [← hW1]; simp [go_sem]
  have c1 : W1.cell? ⟨w.heap.size, 1, none⟩ = some (.int .i64 0) := by rw [← hW1]; simp [go_sem]
  have f0 : W1.frozen? ⟨w.heap.size, 0, none⟩ = false := by rw [← hW1]; simp [go_sem]
  have f1 : W1.frozen? ⟨w.heap.size, 1, none⟩ = false := by rw [← hW1]; simp [go_sem]
  have hB : Below w.heap.size w W1 := by rw [← hW1]; exact bnew _ _
  have l0 : w.heap.size < W1.heap.size := cell_lt c0
  clear h1 hn2 hbb
  go_enter Try.func202, Try.ntmps202
  go_wp2_with (first
    | (go_at_call 84; refine (l01In_is hn _).mono ?_; rintro e w' ⟨rfl, rfl⟩)
    | (go_at_call 106; refine (RW.out _).mono ?_; rintro e w' ⟨rfl, rfl⟩))
  clear hW1
  go_loopw [5, 6] (fun s' i' wr => ∃ j : Nat, j ≤ R ∧ i' = .int .i64 ((j + 2 : Nat) : Int) ∧ Owns wr W1.heap.size s' (xsTo s j) ∧ Below W1.heap.size W1 wr)
    (fun _ i' _ => R + 2 - (intOf i').toNat)
  case atStart => exact ⟨0, Nat.zero_le _, rfl, World.ownsRow_lit W1 #[] 0 (Nat.le_refl _) (by decide) rfl, bnew _ _⟩
  case round =>
    obtain ⟨j, hj, rfl, hown, hN⟩ := hrel
    have hsz := hN.size
    by_cases hlt : j < R
    · have hjs : j + 2 < s.size := by omega
      have hbj := bt_eq (s := s) (k := j + 2) hjs
      have hbl := bt_lt s (j + 2)
      have HS := Lib.hid (xsTo_succ s j)
      have hlen := xsTo_len s j
      have hown5 : World.ownsRow _ _ _ _ _ _ _ := hown
      go_wp2_with (first
        | (at_builtin; refine wpList_append_own _ rfl _ _ 55 rfl W1.heap.size 2 i0 (.int .i64 0) 1 8 Try.underlying55 hinf hz0 hz1 hz2 rfl (by decide) _ _ _ rfl (hown5.alloc _) ⟨wr.heap.size, 0, none⟩ 1 1 [.int .i64 ((bt s (j + 2) : Int) - 48)] rfl rfl (cell_one_new _ _ _) (one_cell_int _) (by unfold maxLen; omega) (by omega) (by simp; omega) ?_))
      intro v' w1 hown' hgrow _
      have hN' := (balloc hN (.cells #[.int .i64 ((bt s (j + 2) : Int) - 48)] 2)).grown hgrow (by simp; omega) (fun j e => (hown5.lt j e).1)
      clear hgrow hown5 hown hN
      go_wp2
      go_roundw
      case rel => exact ⟨j + 1, by omega, by go_num, by rw [HS.out]; unfold Owns; rw [ints_snoc, List.length_append, xsTo_len]; exact hown', hN'⟩
      case measure => simp [intOf]; omega
    · obtain rfl : j = R := by omega
      have d0 := kc hN c0
      have d1 := kc hN c1
      have g0 := kf hN c0 f0
      have g1 := kf hN c1 f1
      have hB2 := bthen hB hN
      have HO := Lib.hid hown
      have BI := Lib.hid (l01Bits_any (by rw [xsTo_len]; omega) wr hown)
      rcases hown.shape with ⟨e0, _⟩ | ⟨hn0, g, cap, rfl, hbg, hg, hcc, hf⟩
      · have := xsTo_len s j; rw [e0] at this; simp at this; omega
      rw [xsTo_len] at hn0 hcc BI ⊢
      cases b
      · clear hown hcc hf HO
        go_wp2_with (go_at_call 248; refine (BI.out).mono ?_; rintro e w' ⟨he, rfl⟩; rw [HBB.out] at he; subst he)
        exact bodyPost_ret (v := .tuple #[.agg #[.int .i64 0, .int .i64 0], .bool false]) (by simp [results, Try.results202, go_sem, d0, d1]) rfl ⟨rfl, (hB2.setCell (p := ⟨w.heap.size, 0, none⟩) (by simp) _).setCell (p := ⟨w.heap.size, 1, none⟩) (by simp) _⟩
      · have hdi := dig_ok HBB.out
        rw [xsTo_len] at hdi
        have OF2 := Lib.hid (OF.out g cap wr (fun r hr => (hdi r hr).1) hg (Lib.hid fun i hi => by rw [hcc.out i hi, (hdi i hi).2]))
        clear hown hcc hf HO hdi
        go_wp2_with (first
          | (go_at_call 248; refine (BI.out).mono ?_; rintro e w' ⟨he, rfl⟩; rw [HBB.out] at he; subst he)
          | (go_at_call 200; refine OF2.out.mono ?_; rintro e w6 ⟨rfl, hb6⟩; have e0 := kc hb6 d0; have e1 := kc hb6 d1; have j0 := kf hb6 d0 g0; have j1 := kf hb6 d1 g1; have hB6 := bthen hB2 hb6))
        exact bodyPost_ret (v := .tuple #[.agg #[.int .i64 ((bt s 0 : Int) - 48), .int .i64 (sumN (dig (xsTo s j)) j : Int)], .bool true]) (by simp [results, Try.results202, go_sem, e0, e1]) rfl ⟨rfl, (hB6.setCell (p := ⟨w.heap.size, 0, none⟩) (by simp) _).setCell (p := ⟨w.heap.size, 1, none⟩) (by simp) _⟩

/-- The rows that a text tells. -/
def txR (s : ByteArray) : Nat := 2 ^ (txN s).toNat
/-- Whether a text is one of a function. -/
def rdOk (s : ByteArray) : Bool := decide (3 ≤ s.size) && (bt s 1 == 58 && (inB (txN s) 0 4 && (s.size == 2 + txR s && (xsTo s (txR s)).all fun v => inB v 0 1)))
/-- The bits that a text tells. -/
def rdB (s : ByteArray) : Int := (sumN (dig (xsTo s (txR s))) (txR s) : Int)

theorem l01Read_any (s : ByteArray) (hs : s.size ≤ 1048576) (w : World) :
    Calls Try.prog 202 #[.string s] w (ReadPost (rdOk s) (txN s) (rdB s) w) := by
  unfold rdOk
  by_cases h : 3 ≤ s.size
  · by_cases h1 : bt s 1 = 58
    · cases hn : inB (txN s) 0 4
      · simp only [h, h1]
        exact l01Read_arity s hs h h1 hn w
      · have hn2 : 0 ≤ txN s ∧ txN s ≤ 4 := by simpa [inB] using hn
        obtain ⟨R, hR, r0, r16, he⟩ := rowsN_eq hn2.1 hn2.2
        have hT : txR s = R := he.symm
        unfold rdB
        rw [hT]
        by_cases hz : s.size = 2 + R
        · have e : (s.size == 2 + R) = true := by simp [hz]
          simp only [h, h1, e, decide_true, Bool.true_and, beq_self_eq_true]
          exact l01Read_long s hs h h1 hn r0 (Lib.hid hR) r16 hz _ rfl w
        · have e : (s.size == 2 + R) = false := by simp [hz]
          simp only [h, h1, e, decide_true, Bool.true_and, beq_self_eq_true, Bool.false_and]
          exact l01Read_len s hs h h1 hn (Lib.hid hR) r16 hz w
    · have e : (bt s 1 == 58) = false := by simp [h1]
      simp only [h, e, decide_true, Bool.true_and, Bool.false_and]
      exact l01Read_short s hs (.inr ⟨h, h1⟩) w
  · simp only [h, decide_false, Bool.false_and]
    exact l01Read_short s hs (.inl (by omega)) w
end Go.Proofs.Ytdgpjpcdifpllaa

/- V1:
  strings.Cut at a colon. -/
namespace Go.Proofs.Ytdgpjpcdifpllaa
open Go.RowKit
set_option linter.unusedVariables false

set_option maxRecDepth 100000 in
set_option maxHeartbeats 1000000 in
theorem IndexByte_any (s : ByteArray) (w : World) :
    Calls Try.prog 268 #[.string s, .int .u8 58] w fun e w' => e = .returned (.int .i64 (Lib.indexByte s.data.toList 58)) ∧ w = w' := by
  go_enter Try.func268, Try.ntmps268
  go_wp2
  rw [run_callFunc_extern Try.func281 (by kernel_rfl) (by kernel_rfl) (by kernel_rfl) (e := Extern.BytealgIndexByte.indexByte) (by kernel_rfl), Lib.run_indexByteString]
  simp only [Result.andThen]
  rw [Oper.upon_value]
  go_wp2
  go_ret
  exact ⟨rfl, rfl⟩

theorem IndexByte_is {s : ByteArray} {i : Int} (h : Lib.indexByte s.data.toList 58 = i) (w : World) :
    Calls Try.prog 268 #[.string s, .int .u8 58] w fun e w' => e = .returned (.int .i64 i) ∧ w = w' := h ▸ IndexByte_any s w

set_option maxRecDepth 100000 in
set_option maxHeartbeats 1000000 in
theorem Index_is {s : ByteArray} {i : Int} (h : Lib.indexByte s.data.toList 58 = i) (w : World) :
    Calls Try.prog 242 #[.string s, .string ⟨#[58]⟩] w fun e w' => e = .returned (.int .i64 i) ∧ w = w' := by
  cases he : ([58] : List UInt8) == s.toList
  · go_enter Try.func242, Try.ntmps242
    go_wp2_with (go_at_call 268; refine (IndexByte_is h _).mono ?_; rintro e w' ⟨rfl, rfl⟩)
    go_ret
    exact ⟨rfl, rfl⟩
  · have e : s.data.toList = [58] := by rw [← Lib.toList_data]; exact (beq_iff_eq.1 he).symm
    obtain rfl : i = 0 := by rw [← h, e]; simp [Lib.indexByte]
    clear h e
    go_enter Try.func242, Try.ntmps242
    go_wp2
    go_ret
    exact ⟨rfl, rfl⟩

set_option maxRecDepth 100000 in
set_option maxHeartbeats 1000000 in
theorem lCut_none {s : ByteArray} (hs : s.size ≤ 1048576) (h : Lib.indexByte s.data.toList 58 = -1) (w : World) :
    Calls Try.prog 186 #[.string s, .string ⟨#[58]⟩] w fun e w' => e = .returned (.tuple #[.string s, .string ⟨#[]⟩, .bool false]) ∧ Below w.heap.size w w' := by
  go_enter Try.func186, Try.ntmps186
  go_wp2_with (go_at_call 242; refine (Index_is h _).mono ?_; rintro e w' ⟨rfl, rfl⟩)
  go_ret3
  exact ⟨rfl, Below.refl _ _⟩

set_option maxRecDepth 100000 in
set_option maxHeartbeats 1000000 in
theorem lCut_some {s : ByteArray} {o : Nat} (hs : s.size ≤ 1048576) (ho : o < s.size) (h : Lib.indexByte s.data.toList 58 = (o : Int)) (w : World) :
    Calls Try.prog 186 #[.string s, .string ⟨#[58]⟩] w fun e w' => e = .returned (.tuple #[.string (s.extract 0 o), .string (s.extract (o + 1) s.size), .bool true]) ∧ Below w.heap.size w w' := by
  have h1 : (o : Int) ≤ (s.size : Int) := by omega
  have h2 : (o : Int) + 1 ≤ (s.size : Int) := by omega
  have h3 : (0 : Int) ≤ (o : Int) := by omega
  go_enter Try.func186, Try.ntmps186
  go_wp2_with (go_at_call 242; refine (Index_is h _).mono ?_; rintro e w' ⟨rfl, rfl⟩)
  go_region
  go_wp2
  go_ret3
  exact ⟨rfl, (Below.refl _ _).drew⟩

set_option maxRecDepth 100000 in
set_option maxHeartbeats 1000000 in
theorem Cut_none {s : ByteArray} (hs : s.size ≤ 1048576) (h : Lib.indexByte s.data.toList 58 = -1) (w : World) :
    Calls Try.prog 140 #[.string s, .string ⟨#[58]⟩] w fun e w' => e = .returned (.tuple #[.string s, .string ⟨#[]⟩, .bool false]) ∧ Below w.heap.size w w' := by
  go_enter Try.func140, Try.ntmps140
  go_wp2_with (go_at_call 186; refine (lCut_none hs h _).mono ?_; rintro e w2 ⟨rfl, hb⟩)
  go_ret3
  exact ⟨rfl, hb⟩

set_option maxRecDepth 100000 in
set_option maxHeartbeats 1000000 in
theorem Cut_some {s : ByteArray} {o : Nat} (hs : s.size ≤ 1048576) (ho : o < s.size) (h : Lib.indexByte s.data.toList 58 = (o : Int)) (w : World) :
    Calls Try.prog 140 #[.string s, .string ⟨#[58]⟩] w fun e w' => e = .returned (.tuple #[.string (s.extract 0 o), .string (s.extract (o + 1) s.size), .bool true]) ∧ Below w.heap.size w w' := by
  go_enter Try.func140, Try.ntmps140
  go_wp2_with (go_at_call 186; refine (lCut_some hs ho h _).mono ?_; rintro e w2 ⟨rfl, hb⟩)
  go_ret3
  exact ⟨rfl, hb⟩
end Go.Proofs.Ytdgpjpcdifpllaa

/- H1:
  A list turned into a table of sixteen places. -/
namespace Go.Proofs.Ytdgpjpcdifpllaa
open Go.RowKit

theorem size1 : (Try.prog.info? 2).map (·.size) = some 1 := by kernel_rfl
theorem size16 : (Try.prog.info? 228).map (·.size) = some 16 := by kernel_rfl
theorem under16 : Try.prog.underlying 228 = some (.array 16 2) := by kernel_rfl

/-- The conversion of a slice that is long enough. -/
theorem wpList_toArray {P : Program} {ops : Array Oper} {rest : List Oper} {o : Oper} {a : Act} {w : World} {Q : Exit → Act → World → Prop} (hgd : o.guard = none) (arr : TypeId) (x : Operand) (ho : o.op = .sliceToArrayPointer arr x)
    (n : Nat) (e : TypeId) (hu : P.underlying arr = some (.array n e)) (ad : Option Addr) (len cap : Nat) (hx : a.eval x = .slice ad len cap) (hn : n ≤ len)
    (h : wpList P ops Q rest (a.put o.dst (.pointer ad)) w) : wpList P ops Q (o :: rest) a w := by
  refine wpList_plain hgd fun K hK => ?_
  unfold Oper.wp
  simp [execOp, ho, hx, run_arrayAt w arr e n ad len cap hu hn, Result.andThen]
  exact hK _ _ h

def zeros16 : List Value := List.replicate 16 (.int .i64 0)

theorem row16 {w : World} {base g : Nat} (h : w.ownsRow base 2 1 (.slice (some ⟨g, 0, none⟩) 16 16) 16 (madeCells (Value.int .i64 0).cells (16 * 1)).toList) : w.heap[g]? = some (.cells zeros16.toArray 2 (0, 0)) := by
  obtain ⟨_, ⟨h0, _⟩ | ⟨g', cap, cur, h1, _, h2, _, _, h3, h4⟩⟩ := h
  · cases h0
  · cases h1
    rw [h2]
    have e : cur.toList.take (16 * 1) = cur.toList := List.take_of_length_le (by simp [h3])
    rw [e] at h4
    have e2 : cur = zeros16.toArray := by
      apply Array.toList_inj.1
      rw [h4]
      kernel_rfl
    rw [e2]

set_option maxRecDepth 100000 in
set_option maxHeartbeats 1000000 in
theorem tableOf_any {g0 cap n : Nat} {xs : List Int} (hn : n ≤ 16) (w : World) (hx : (ints xs).length = n) (hc : Hid (∀ j u, (ints xs)[j]? = some u → w.cell? ((⟨g0, 0, none⟩ : Addr).add j) = some u)) :
    Calls Try.prog 188 #[.slice (some ⟨g0, 0, none⟩) n cap] w fun e w' => e = .returned (.agg ((ints xs) ++ List.replicate (16 - n) (Value.int .i64 0)).toArray) ∧ Below w.heap.size w w' := by
  obtain ⟨i0, hi, hz0, hz1, hzb⟩ := info_parts infoI
  obtain ⟨W1, hW1⟩ : ∃ W1, w.alloc (.cells #[.int .i64 0, .int .i64 0, .int .i64 0, .int .i64 0, .int .i64 0, .int .i64 0, .int .i64 0, .int .i64 0, .int .i64 0, .int .i64 0, .int .i64 0, .int .i64 0, .int .i64 0, .int .i64 0, .int .i64 0, .int .i64 0] 228) = W1 := ⟨_, rfl⟩
  have hs1 : W1.heap.size = w.heap.size + 1 := by rw [← hW1]; simp
  have hz : W1.heap[w.heap.size]? = some (.cells zeros16.toArray 228 (0, 0)) := by rw [← hW1]; exact heap_alloc_new _ _
  have hB1 : Below w.heap.size w W1 := by rw [← hW1]; exact bnew _ _
  have hc1 : Hid (∀ j u, (ints xs)[j]? = some u → W1.cell? ((⟨g0, 0, none⟩ : Addr).add j) = some u) := Lib.hid fun j u h => kc hB1 (hc.out j u h)
  have hlen : (ints xs ++ List.replicate (16 - n) (Value.int .i64 0)).length = 16 := by simp [hx]; omega
  have hint : ∀ v ∈ ints xs, v.oneCell' = true := by
    intro v hv
    obtain ⟨z, _, rfl⟩ := List.mem_map.1 hv
    rfl
  have hmin : (ints xs).length = Nat.min n 16 := by rw [hx]; exact (Nat.min_eq_left hn).symm
  have hfit : 0 + (ints xs).length ≤ zeros16.length := by rw [Nat.zero_add, hx]; exact hn
  have hall : (ints xs ++ List.replicate (16 - n) (Value.int .i64 0)).toArray.all (·.oneCell') = true := by
    rw [List.all_toArray, List.all_append, List.all_eq_true.2 hint, List.all_replicate]
    simp [Value.oneCell']
  have hold : zeros16.toArray.size = (ints xs ++ List.replicate (16 - n) (Value.int .i64 0)).toArray.size := by
    rw [List.size_toArray, List.size_toArray]
    exact (show zeros16.length = 16 from rfl).trans hlen.symm
  have hspl : splice zeros16 0 (ints xs) = ints xs ++ List.replicate (16 - n) (Value.int .i64 0) := by
    unfold splice zeros16
    rw [List.take_zero, List.nil_append, Nat.zero_add, hx, List.drop_replicate]
  go_enter Try.func188, Try.ntmps188
  go_wp2_with (first
    | (at_make; refine wpList_make_full _ rfl _ _ 55 rfl W1.heap.size 2 i0 (.int .i64 0) 1 Try.underlying55 hi hz0 hz1 .i64 .i64 _ _ 16 rfl rfl rfl rfl (by rw [hzb]; decide) (by decide) (Nat.le_refl _) ?_; intro w1 hown1 hgrow1
       rw [hs1] at hown1
       have hg1 := row16 hown1
       have hb1 : Below (w.heap.size + 1) W1 w1 := by rw [← hs1]; exact (Below.refl _ _).grown hgrow1 (Nat.le_refl _) (fun j e => by cases e)
       have hcc : ∀ j u, (ints xs)[j]? = some u → w1.cell? ((⟨g0, 0, none⟩ : Addr).add j) = some u := fun j u h => kc (hs1 ▸ hb1) (hc1.out j u h)
       clear hown1 hgrow1)
    | (refine wpList_copy_splice rfl (.tmp 5) (.tmp 6) 55 55 rfl 2 Try.underlying55 size1 _ _ _ _ _ _ rfl rfl (w.heap.size + 1) 0 zeros16 2 hg1 (ints xs) hmin (fun _ => ⟨rfl, _, rfl, hcc⟩) hfit hint (w.heap.size + 1) W1 hb1 (Nat.le_refl _) ?_; intro w2 hw2 hb2
       rw [hspl] at hw2
       have hz2 : w2.heap[w.heap.size]? = some (.cells zeros16.toArray 228 (0, 0)) := (hb2.block _ (Nat.lt_succ_self _)).trans hz)
    | (refine wpList_toArray rfl 228 (.tmp 8) rfl 16 2 under16 _ 16 16 rfl (Nat.le_refl _) ?_)
    | (refine wpList_load_row rfl 228 (.tmp 9) rfl (w.heap.size + 1) rfl 2 (ints xs ++ List.replicate (16 - n) (Value.int .i64 0)).toArray (0, 0) _ hw2.out under16 rfl (by rw [size16, List.size_toArray, hlen]) ?_)
    | (refine wpList_store_row rfl 228 (.tmp 2) (.tmp 10) rfl w.heap.size (ints xs ++ List.replicate (16 - n) (Value.int .i64 0)).toArray rfl rfl 228 zeros16.toArray hz2 (by rw [size16, List.size_toArray, hlen]) hold hall ?_))
  have hb2' : Below W1.heap.size W1 w2 := by rw [hs1]; exact hb2
  have hb3 : Below w.heap.size w w2 := bthen hB1 hb2'
  refine bodyPost_ret (results_cell_row Try.results188 _ _ w.heap.size 228 (ints xs ++ List.replicate (16 - n) (Value.int .i64 0)).toArray (0, 0) _ rfl (setRow_heap w2 w.heap.size _ _ _ _ hz2) under16 rfl (by rw [size16, List.size_toArray, hlen])) rfl ⟨rfl, below_setRow hb3 (Nat.le_refl _) _⟩
end Go.Proofs.Ytdgpjpcdifpllaa

/- L5:
  ValueAt in both packages. -/

namespace Go.Proofs.Ytdgpjpcdifpllaa
open Go.RowKit
set_option linter.unusedVariables false

/-- The boxes of ValueAt. -/
theorem valueBoxes (n b : Int) (a : Option Addr) (len cap : Nat) (w : World) : ∃ W1, (w.alloc (.cells #[.int .i64 n, .int .i64 b] 23)).alloc (.cells #[.slice a len cap] 55) = W1 ∧ W1.cell? ⟨w.heap.size, 0, none⟩ = some (.int .i64 n) ∧ W1.cell? ⟨w.heap.size, 1, none⟩ = some (.int .i64 b) ∧
    W1.cell? ⟨w.heap.size + 1, 0, none⟩ = some (.slice a len cap) ∧ Below w.heap.size w W1 :=
  ⟨_, rfl, by simp [go_sem], by simp [go_sem], by simp [go_sem], balloc (bnew _ _) _⟩

/-- The box of the model's ValueAt. -/
theorem valueBox (n b : Int) (w : World) : ∃ W1, w.alloc (.cells #[.int .i64 n, .int .i64 b] 23) = W1 ∧ W1.cell? ⟨w.heap.size, 0, none⟩ = some (.int .i64 n) ∧ W1.cell? ⟨w.heap.size, 1, none⟩ = some (.int .i64 b) ∧ Below w.heap.size w W1 :=
  ⟨_, rfl, by simp [go_sem], by simp [go_sem], bnew _ _⟩

end Go.Proofs.Ytdgpjpcdifpllaa

/- H2:
  FuncOf in both packages. -/
namespace Go.Proofs.Ytdgpjpcdifpllaa
open Go.RowKit
set_option linter.unusedVariables false

set_option maxHeartbeats 400000 in
theorem FuncOf1_any (b r : Nat) (x : Int) (hr : r < 16) (w : World) (hc : w.cell? ⟨b, r, none⟩ = some (.int .i64 x)) :
    Calls Try.prog 190 #[.int .i64 (r : Int), .pointer (some ⟨b, 0, none⟩)] w fun e w' => e = .returned (.int .i64 x) ∧ Below w.heap.size w w' := by
  go_enter Try.func190, Try.ntmps190
  go_wp2
  go_ret
  exact ⟨rfl, Below.refl _ _⟩

/-- The box of the answer. -/
theorem ofBox (w : World) : ∃ W1, w.alloc (.cells #[.int .i64 0, .int .i64 0] 23) = W1 ∧ W1.cell? ⟨w.heap.size, 0, none⟩ = some (.int .i64 0) ∧ W1.cell? ⟨w.heap.size, 1, none⟩ = some (.int .i64 0) ∧
    W1.frozen? ⟨w.heap.size, 0, none⟩ = false ∧ W1.frozen? ⟨w.heap.size, 1, none⟩ = false ∧ Below w.heap.size w W1 ∧ W1.heap.size = w.heap.size + 1 :=
  ⟨_, rfl, by simp [go_sem], by simp [go_sem], by simp [go_sem], by simp [go_sem], bnew _ _, by simp⟩

set_option maxRecDepth 100000 in
set_option maxHeartbeats 1000000 in
theorem implFuncOf_no {base : Nat} {s : Value} {xs : List Int} (hl : xs.length ≤ 1048576) {n : Int} (h1 : inB n 0 4 = false) (w : World) (ho : Owns w base s xs) :
    Calls Try.prog 142 #[.int .i64 n, s] w fun e w' => e = .returned (.tuple #[.agg #[.int .i64 0, .int .i64 0], .int .i64 2]) ∧ Below w.heap.size w w' := by
  obtain ⟨a, cap, rfl⟩ := ho.slice
  obtain ⟨W1, hW1, p0, p1, f0, f1, hB, hs1⟩ := ofBox w
  have O1 := Lib.hid (ho.below hB)
  have hL := Lib.hid (rfl : xs.length = xs.length)
  go_enter Try.func142, Try.ntmps142
  go_wp2_with (first
    | (go_at_call 143; refine (isArity_is h1 _).mono ?_; rintro e w' ⟨rfl, rfl⟩))
  exact bodyPost_ret (v := .tuple #[.agg #[.int .i64 0, .int .i64 0], .int .i64 2]) (by simp [results, Try.results142, go_sem, p0, p1]) rfl ⟨rfl, (hB.setCell (p := ⟨w.heap.size, 0, none⟩) (by simp) _).setCell (p := ⟨w.heap.size, 1, none⟩) (by simp) _⟩

set_option maxRecDepth 100000 in
set_option maxHeartbeats 1000000 in
theorem implFuncOf_len {base : Nat} {s : Value} {xs : List Int} (hl : xs.length ≤ 1048576) {n : Int} {R : Nat} (h0 : 0 ≤ n) (h4 : n ≤ 4) (h1 : inB n 0 4 = true) (r0 : 0 < R) (r16 : R ≤ 16) (hR : Hid (rowsN n = (R : Int))) (hne : ((xs.length : Int) != (R : Int)) = true) (w : World) (ho : Owns w base s xs) :
    Calls Try.prog 142 #[.int .i64 n, s] w fun e w' => e = .returned (.tuple #[.agg #[.int .i64 0, .int .i64 0], .int .i64 2]) ∧ Below w.heap.size w w' := by
  obtain ⟨a, cap, rfl⟩ := ho.slice
  obtain ⟨W1, hW1, p0, p1, f0, f1, hB, hs1⟩ := ofBox w
  have O1 := Lib.hid (ho.below hB)
  have hL := Lib.hid (rfl : xs.length = xs.length)
  go_enter Try.func142, Try.ntmps142
  go_wp2_with (first
    | (go_at_call 143; refine (isArity_is h1 _).mono ?_; rintro e w' ⟨rfl, rfl⟩)
    | (go_at_call 144; refine (rowCount_is h0 h4 hR _).mono ?_; rintro e w' ⟨rfl, rfl⟩))
  exact bodyPost_ret (v := .tuple #[.agg #[.int .i64 0, .int .i64 0], .int .i64 2]) (by simp [results, Try.results142, go_sem, p0, p1]) rfl ⟨rfl, (hB.setCell (p := ⟨w.heap.size, 0, none⟩) (by simp) _).setCell (p := ⟨w.heap.size, 1, none⟩) (by simp) _⟩

set_option maxRecDepth 100000 in
set_option maxHeartbeats 1000000 in
theorem implFuncOf_dig {base : Nat} {s : Value} {xs : List Int} (hl : xs.length ≤ 1048576) {n : Int} {R : Nat} (h0 : 0 ≤ n) (h4 : n ≤ 4) (h1 : inB n 0 4 = true) (r0 : 0 < R) (r16 : R ≤ 16) (hR : Hid (rowsN n = (R : Int))) (hne : ((xs.length : Int) != (R : Int)) = false) (hd : (xs.all fun v => inB v 0 1) = false) (w : World) (ho : Owns w base s xs) :
    Calls Try.prog 142 #[.int .i64 n, s] w fun e w' => e = .returned (.tuple #[.agg #[.int .i64 0, .int .i64 0], .int .i64 2]) ∧ Below w.heap.size w w' := by
  obtain ⟨a, cap, rfl⟩ := ho.slice
  obtain ⟨W1, hW1, p0, p1, f0, f1, hB, hs1⟩ := ofBox w
  have O1 := Lib.hid (ho.below hB)
  have hL := Lib.hid (rfl : xs.length = xs.length)
  go_enter Try.func142, Try.ntmps142
  go_wp2_with (first
    | (go_at_call 143; refine (isArity_is h1 _).mono ?_; rintro e w' ⟨rfl, rfl⟩)
    | (go_at_call 144; refine (rowCount_is h0 h4 hR _).mono ?_; rintro e w' ⟨rfl, rfl⟩)
    | (go_at_call 187; refine (areDigits_any hl _ O1.out).mono ?_; rintro e w' ⟨rfl, rfl⟩))
  exact bodyPost_ret (v := .tuple #[.agg #[.int .i64 0, .int .i64 0], .int .i64 2]) (by simp [results, Try.results142, go_sem, p0, p1]) rfl ⟨rfl, (hB.setCell (p := ⟨w.heap.size, 0, none⟩) (by simp) _).setCell (p := ⟨w.heap.size, 1, none⟩) (by simp) _⟩

end Go.Proofs.Ytdgpjpcdifpllaa

/- H3:
  FuncOf in both packages, at lists of digits. -/
namespace Go.Proofs.Ytdgpjpcdifpllaa
open Go.RowKit
set_option linter.unusedVariables false

theorem digs_get {xs : List Int} (hd : (xs.all fun v => inB v 0 1) = true) (ys : List Value) (r : Nat) (hr : r < xs.length) : (ints xs ++ ys)[r]? = some (.int .i64 (dig xs r : Int)) := by
  have h := (dig_ok hd r hr).2
  rw [List.getElem?_eq_getElem hr] at h
  rw [List.getElem?_append_left (by simpa [ints] using hr)]
  simp [ints, hr]
  simpa using h

/-- The box of the table, and what stands in it when it is stored. -/
theorem tableBox (w : World) (cells : List Value) (hl : cells.length = 16) (h1 : cells.toArray.all (·.oneCell') = true) :
    ∃ W4, w.alloc (.cells #[.int .i64 0, .int .i64 0, .int .i64 0, .int .i64 0, .int .i64 0, .int .i64 0, .int .i64 0, .int .i64 0, .int .i64 0, .int .i64 0, .int .i64 0, .int .i64 0, .int .i64 0, .int .i64 0, .int .i64 0, .int .i64 0] 228) = W4 ∧ Below w.heap.size w W4 ∧ W4.heap[w.heap.size]? = some (.cells zeros16.toArray 228 (0, 0)) ∧ W4.heap.size = w.heap.size + 1 :=
  ⟨_, rfl, bnew _ _, heap_alloc_new _ _, by simp⟩

theorem tableStored {w W4 : World} (cells : List Value) (hb : Below w.heap.size w W4) (hg : W4.heap[w.heap.size]? = some (.cells zeros16.toArray 228 (0, 0))) :
    ∃ W5, W4.setRow w.heap.size cells.toArray = W5 ∧ Below w.heap.size w W5 ∧ ∀ r v, cells[r]? = some v → W5.cell? ⟨w.heap.size, r, none⟩ = some v := by
  refine ⟨_, rfl, below_setRow hb (Nat.le_refl _) _, fun r v h => ?_⟩
  have hs := setRow_heap W4 w.heap.size _ cells.toArray _ _ hg
  simp [World.cell?, hs, h]

set_option maxRecDepth 100000 in
set_option maxHeartbeats 2000000 in
theorem implFuncOf_yes {base : Nat} {s : Value} {xs : List Int} {n : Int} {R : Nat} (h0 : 0 ≤ n) (h4 : n ≤ 4) (h1 : inB n 0 4 = true) (r0 : 0 < R) (r16 : R ≤ 16) (hR : Hid (rowsN n = (R : Int)))
    (hx : xs.length = R) (hd : (xs.all fun v => inB v 0 1) = true) (w : World) (ho : Owns w base s xs) :
    Calls Try.prog 142 #[.int .i64 n, s] w fun e w' => e = .returned (.tuple #[.agg #[.int .i64 n, .int .i64 (sumN (dig xs) R : Int)], .int .i64 0]) ∧ Below w.heap.size w w' := by
  have hdi := Lib.hid (dig_ok hd)
  rcases ho.shape with ⟨rfl, _⟩ | ⟨hn, g, cap, rfl, hbg, hg, hcc, hf⟩
  · simp at hx; omega
  subst hx
  have hne : ((xs.length : Int) != (xs.length : Int)) = false := by simp
  have hcell : Hid (∀ j u, (ints xs)[j]? = some u → w.cell? ((⟨g, 0, none⟩ : Addr).add j) = some u) := Lib.hid fun j u h => by
    have hj : j < xs.length := by
      have := (List.getElem?_eq_some_iff.1 h).1
      simpa [ints] using this
    have e : Addr.add ⟨g, 0, none⟩ j = ⟨g, j, none⟩ := by cases j <;> simp [Addr.add]
    rw [e, hcc.out j hj, ← h, List.getElem?_eq_getElem (by simpa [ints] using hj)]
    simp [ints, hj]
  have hlen16 : (ints xs ++ List.replicate (16 - xs.length) (Value.int .i64 0)).length = 16 := by simp [ints]; omega
  have hall : (ints xs ++ List.replicate (16 - xs.length) (Value.int .i64 0)).toArray.all (·.oneCell') = true := by
    rw [List.all_toArray, List.all_append, List.all_replicate]
    simp [Value.oneCell', ints]
  have hold : zeros16.toArray.size = (ints xs ++ List.replicate (16 - xs.length) (Value.int .i64 0)).toArray.size := by
    rw [List.size_toArray, List.size_toArray]
    exact (show zeros16.length = 16 from rfl).trans hlen16.symm
  have hsz : (Try.prog.info? 228).map (·.size) = some (ints xs ++ List.replicate (16 - xs.length) (Value.int .i64 0)).toArray.size := by rw [size16, List.size_toArray, hlen16]
  have hget := Lib.hid (digs_get hd (List.replicate (16 - xs.length) (Value.int .i64 0)))
  generalize hcs : ints xs ++ List.replicate (16 - xs.length) (Value.int .i64 0) = cs at hlen16 hall hold hsz hget
  have hT : Hid (∀ w0 : World, Below w.heap.size w w0 → Calls Try.prog 188 #[.slice (some ⟨g, 0, none⟩) xs.length cap] w0 fun e w' => e = .returned (.agg cs.toArray) ∧ Below w0.heap.size w0 w') :=
    Lib.hid fun w0 hw0 => hcs ▸ tableOf_any (xs := xs) r16 w0 (by simp [ints]) (Lib.hid fun j u h => kc hw0 (hcell.out j u h))
  clear hcs hcell hcc hf hg
  obtain ⟨W1, hW1, p0, p1, f0, f1, hB, hs1⟩ := ofBox w
  have O1 := Lib.hid (ho.below hB)
  have HD := Lib.hid hd
  clear hd ho
  have hL := Lib.hid (rfl : xs.length = xs.length)
  go_enter Try.func142, Try.ntmps142
  go_wp2_with (first
    | (go_at_call 143; refine (isArity_is h1 _).mono ?_; rintro e w' ⟨rfl, rfl⟩)
    | (go_at_call 144; refine (rowCount_is h0 h4 hR _).mono ?_; rintro e w' ⟨rfl, rfl⟩)
    | (go_at_call 187; refine (areDigits_any (by omega) _ O1.out).mono ?_; rintro e w' ⟨he, rfl⟩; rw [HD.out] at he; subst he)
    | (go_at_call 188; refine (hT.out _ hB).mono ?_; rintro e w3 ⟨rfl, hb3⟩
       have q0 := kc hb3 p0
       have q1 := kc hb3 p1
       have k0 := kf hb3 p0 f0
       have k1 := kf hb3 p1 f1
       have hB3 := bthen hB hb3
       obtain ⟨W4, hW4, hb4, hg4, hs4⟩ := tableBox w3 cs hlen16 hall
       obtain ⟨W5, hW5, hb5, hc5⟩ := tableStored cs hb4 hg4
       have HC5 := Lib.hid hc5
       have q50 := kc hb5 q0
       have q51 := kc hb5 q1
       have k50 := kf hb5 q0 k0
       have k51 := kf hb5 q1 k1
       have hB5 := bthen hB3 hb5
       clear hc5 p0 p1 f0 f1)
    | (refine wpList_store_row rfl 228 (.tmp 6) (.tmp 24) rfl w3.heap.size cs.toArray rfl rfl 228 zeros16.toArray hg4 hsz hold hall ?_; rw [hW5])
    | (go_at_call 189
       have F := Lib.hid (funcByRows_any n h0 h4 xs.length r0 r16 hR 190 #[.pointer (some ⟨w3.heap.size, 0, none⟩)] (enters_of Try.func190 (by kernel_rfl) rfl)
         (dig xs) (fun r hr => (hdi.out r hr).1) W5 (Lib.hid fun W hW r hr => FuncOf1_any w3.heap.size r (dig xs r : Int) (by omega) W (kc hW (HC5.out r _ (hget.out r hr)))))
       rw [orBits_sum r0 _ (fun r hr => (hdi.out r hr).1)] at F
       refine F.out.mono ?_; rintro e w6 ⟨rfl, hb6⟩
       have e0 := kc hb6 q50
       have e1 := kc hb6 q51
       have j0 := kf hb6 q50 k50
       have j1 := kf hb6 q51 k51
       have hB6 := bthen hB5 hb6))
  exact bodyPost_ret (v := .tuple #[.agg #[.int .i64 n, .int .i64 (sumN (dig xs) xs.length : Int)], .int .i64 0]) (by simp [results, Try.results142, go_sem, e0, e1]) rfl ⟨rfl, (hB6.setCell (p := ⟨w.heap.size, 0, none⟩) (by simp) _).setCell (p := ⟨w.heap.size, 1, none⟩) (by simp) _⟩

end Go.Proofs.Ytdgpjpcdifpllaa

/- V2:
  ParseFunc in the program. -/
namespace Go.Proofs.Ytdgpjpcdifpllaa
open Go.RowKit
set_option linter.unusedVariables false
set_option linter.unusedSimpArgs false

/-- FuncOf, its answer in one form. -/
theorem implFuncOf_bool {xs : List Int} (hl : xs.length ≤ 1048576) (n : Int) {ok : Bool} (hok : (inB n 0 4 && (xs.length == 2 ^ n.toNat && xs.all fun v => inB v 0 1)) = ok) (base : Nat) (s : Value) (w : World) (ho : Owns w base s xs) :
    Calls Try.prog 142 #[.int .i64 n, s] w fun e w' => e = .returned (.tuple #[.agg #[.int .i64 (if ok then n else 0), .int .i64 (if ok then (sumN (dig xs) xs.length : Int) else 0)], .int .i64 (if ok then 0 else 2)]) ∧ Below w.heap.size w w' := by
  subst hok
  cases h1 : inB n 0 4
  · exact implFuncOf_no hl h1 w ho
  · have hn2 : 0 ≤ n ∧ n ≤ 4 := by simpa [inB] using h1
    obtain ⟨R, hR, r0, r16, he⟩ := rowsN_eq hn2.1 hn2.2
    rw [← he]
    by_cases hx : xs.length = R
    · have e : (xs.length == R) = true := by simp [hx]
      cases hd : (xs.all fun v => inB v 0 1)
      · rw [e]
        exact implFuncOf_dig hl hn2.1 hn2.2 h1 r0 r16 (Lib.hid hR) (by simp [hx]) hd w ho
      · rw [e]
        have := implFuncOf_yes hn2.1 hn2.2 h1 r0 r16 (Lib.hid hR) hx hd w ho
        rw [← hx] at this
        exact this
    · have e : (xs.length == R) = false := by simp [hx]
      rw [e]
      exact implFuncOf_len hl hn2.1 hn2.2 h1 r0 r16 (Lib.hid hR) (by simp; omega) w ho

set_option maxHeartbeats 400000 in
theorem digitValue_any (b : Nat) (hb : b < 256) (w : World) :
    Calls Try.prog 141 #[.int .u8 (b : Int)] w fun e w' => e = .returned (.int .i64 ((b : Int) - 48)) ∧ w = w' := by
  go_enter Try.func141, Try.ntmps141
  go_wp2
  go_ret
  exact ⟨rfl, rfl⟩

/-- The values of the bytes of a text. -/
def tv (T : ByteArray) (j : Nat) : List Int := (List.range j).map fun r => (bt T r : Int) - 48
theorem tv_len (T : ByteArray) (j : Nat) : (tv T j).length = j := by simp [tv]
theorem tv_get (T : ByteArray) (L i : Nat) (h : i < L) : (tv T L)[i]?.getD 0 = (bt T i : Int) - 48 := by simp [tv, h]

/-- The answer to a text. -/
def ParsePost (ok : Bool) (n b : Int) (w : World) (e : Ending) (w' : World) : Prop := e = .returned (.tuple #[.agg #[.int .i64 (if ok then n else 0), .int .i64 (if ok then b else 0)], .int .i64 (if ok then 0 else 6)]) ∧ Below w.heap.size w w'

set_option maxRecDepth 100000 in
set_option maxHeartbeats 1000000 in
theorem ParseFunc_none {s : ByteArray} (hs : s.size ≤ 1048576) (h : Lib.indexByte s.data.toList 58 = -1) (n b : Int) (w : World) :
    Calls Try.prog 74 #[.string s] w (ParsePost false n b w) := by
  obtain ⟨W1, hW1, p0, p1, f0, f1, hB, hs1⟩ := ofBox w
  go_enter Try.func74, Try.ntmps74
  go_wp2_with (first
    | (go_at_call 140; refine (Cut_none hs h _).mono ?_; rintro e w2 ⟨rfl, hb⟩; have q0 := kc hb p0; have q1 := kc hb p1; have g0 := kf hb p0 f0; have g1 := kf hb p1 f1; have hB2 := bthen hB hb))
  exact bodyPost_ret (v := .tuple #[.agg #[.int .i64 0, .int .i64 0], .int .i64 6]) (by simp [results, Try.results74, go_sem, q0, q1]) rfl ⟨rfl, (hB2.setCell (p := ⟨w.heap.size, 0, none⟩) (by simp) _).setCell (p := ⟨w.heap.size, 1, none⟩) (by simp) _⟩

set_option maxRecDepth 100000 in
set_option maxHeartbeats 1000000 in
theorem ParseFunc_off {s H T : ByteArray} (hC : Hid (∀ W, Calls Try.prog 140 #[.string s, .string ⟨#[58]⟩] W fun e w' => e = .returned (.tuple #[.string H, .string T, .bool true]) ∧ Below W.heap.size W w'))
    (hd : ((H.size : Int) != 1) = true ∨ ((H.size : Int) != 1) = false ∧ decide (16 < (T.size : Int)) = true) (n b : Int) (w : World) :
    Calls Try.prog 74 #[.string s] w (ParsePost false n b w) := by
  obtain ⟨W1, hW1, p0, p1, f0, f1, hB, hs1⟩ := ofBox w
  rcases hd with hd | ⟨hd, hd2⟩ <;>
  · go_enter Try.func74, Try.ntmps74
    go_wp2_with (first
      | (go_at_call 140; refine (hC.out _).mono ?_; rintro e w2 ⟨rfl, hb⟩; have q0 := kc hb p0; have q1 := kc hb p1; have g0 := kf hb p0 f0; have g1 := kf hb p1 f1; have hB2 := bthen hB hb))
    exact bodyPost_ret (v := .tuple #[.agg #[.int .i64 0, .int .i64 0], .int .i64 6]) (by simp [results, Try.results74, go_sem, q0, q1]) rfl ⟨rfl, (hB2.setCell (p := ⟨w.heap.size, 0, none⟩) (by simp) _).setCell (p := ⟨w.heap.size, 1, none⟩) (by simp) _⟩

set_option maxRecDepth 100000 in
set_option maxHeartbeats 4000000 in
theorem ParseFunc_main {s H T : ByteArray} (hC : Hid (∀ W, Calls Try.prog 140 #[.string s, .string ⟨#[58]⟩] W fun e w' => e = .returned (.tuple #[.string H, .string T, .bool true]) ∧ Below W.heap.size W w'))
    (hH : H.size = 1) {L : Nat} (hT : T.size = L) (hL : L ≤ 16) {ok : Bool} (hok : (inB ((bt H 0 : Int) - 48) 0 4 && (L == 2 ^ ((bt H 0 : Int) - 48).toNat && (tv T L).all fun v => inB v 0 1)) = ok) (w : World) :
    Calls Try.prog 74 #[.string s] w (ParsePost ok ((bt H 0 : Int) - 48) (sumN (dig (tv T L)) L : Int) w) := by
  subst hT
  obtain ⟨i0, hi, hz0, hz1, hz2⟩ := info_parts infoI
  obtain ⟨W1, hW1, p0, p1, f0, f1, hB, hs1⟩ := ofBox w
  have hd : ((H.size : Int) != 1) = false := by simp [hH]
  have hd2 : decide (16 < (T.size : Int)) = false := by simp; omega
  have hb0 := bt_eq (s := H) (k := 0) (by omega)
  have hbl0 := bt_lt H 0
  have FO := Lib.hid fun base v W ho => implFuncOf_bool (xs := tv T T.size) (by rw [tv_len]; omega) ((bt H 0 : Int) - 48) (ok := ok) (by rw [tv_len]; exact hok) base v W ho
  clear hok
  go_enter Try.func74, Try.ntmps74
  go_wp2_with (first
    | (go_at_call 140; refine (hC.out _).mono ?_; rintro e w2 ⟨rfl, hb⟩; have q0 := kc hb p0; have q1 := kc hb p1; have g0 := kf hb p0 f0; have g1 := kf hb p1 f1; have hB2 := bthen hB hb)
    | (at_make; refine wpList_make_full _ rfl _ _ 55 rfl w2.heap.size 2 i0 (.int .i64 0) 1 Try.underlying55 hi hz0 hz1 .i64 .i64 _ _ T.size rfl rfl rfl rfl (by rw [hz2]; omega) (by unfold maxLen; omega) (Nat.le_refl _) ?_; intro w3 hown3 hgrow3))
  have hB3 : Below w2.heap.size w2 w3 := (Below.refl _ _).grown hgrow3 (Nat.le_refl _) (fun j e => by cases e)
  have r0 := kc hB3 q0
  have r1 := kc hB3 q1
  have e0 := kf hB3 q0 g0
  have e1 := kf hB3 q1 g1
  have hz2' : w.heap.size < w2.heap.size := cell_lt q0
  have hB4 := bthen hB2 hB3
  have hvl := hown3.1
  generalize (madeCells (Value.int .i64 0).cells (T.size * 1)).toList = vs at hown3 hvl
  clear hgrow3 hB3 p0 p1 f0 f1 q0 q1 g0 g1 hB2 hB hb hW1
  have htl := tv_len T T.size
  have hln : (tv T T.size).length = T.size := htl
  go_loopw [35] (fun i' wr => ∃ i : Nat, i ≤ T.size ∧ i' = .int .i64 i ∧ wr.ownsRow w2.heap.size 2 1 (.slice (some ⟨w2.heap.size, 0, none⟩) T.size T.size) T.size (ints ((tv T T.size).take i) ++ vs.drop i) ∧ Below w2.heap.size w3 wr) (fun i' _ => T.size - (intOf i').toNat)
  case atStart => exact ⟨0, Nat.zero_le _, rfl, by simpa [ints] using hown3, Below.refl _ _⟩
  case round =>
    clear hown3
    obtain ⟨i, hi', rfl, ho, hN⟩ := hrel
    by_cases hlt : i < T.size
    · obtain ⟨u, hu⟩ : ∃ u, wr.cell? ⟨w2.heap.size, i, none⟩ = some u := by
        rw [ho.cellAt i (by omega)]
        exact ⟨_, List.getElem?_eq_getElem (by simp [ints]; omega)⟩
      have hfz := ho.frozenAt i
      have hst := ho.stored i (.int .i64 ((tv T T.size)[i]?.getD 0))
      rw [copy_step (tv T T.size) vs i (by omega) (by omega), tv_get T _ i hlt] at hst
      have HST := Lib.hid hst.1
      have hbi := bt_eq (s := T) (k := i) hlt
      have hbl := bt_lt T i
      have DV := Lib.hid fun W => digitValue_any (bt T i) hbl W
      clear hst ho hvl
      go_wp2_with (go_at_call 141; refine (DV.out _).mono ?_; rintro e w' ⟨rfl, rfl⟩)
      go_roundw
      case rel => exact ⟨i + 1, by omega, by go_num, HST.out, hN.setCell (p := ⟨w2.heap.size, i, none⟩) (Nat.le_refl _) _⟩
      case measure => simp [intOf]; omega
    · obtain rfl : i = T.size := by omega
      have hown : Owns wr w2.heap.size (.slice (some ⟨w2.heap.size, 0, none⟩) T.size T.size) (tv T T.size) := by
        unfold Owns
        rw [htl]
        rw [List.drop_of_length_le (l := vs) (by omega), List.append_nil, List.take_of_length_le (by omega)] at ho
        exact ho
      have s0 := (hN.cell (p := ⟨w.heap.size, 0, none⟩) hz2').trans r0
      have s1 := (hN.cell (p := ⟨w.heap.size, 1, none⟩) hz2').trans r1
      have t0 := (hN.frozen (p := ⟨w.heap.size, 0, none⟩) hz2').trans e0
      have t1 := (hN.frozen (p := ⟨w.heap.size, 1, none⟩) hz2').trans e1
      have hB5 : Below w.heap.size w wr := hB4.trans (hN.mono (by omega))
      have FF := Lib.hid (FO.out w2.heap.size _ wr hown)
      have DV := Lib.hid fun W => digitValue_any (bt H 0) hbl0 W
      clear ho hown hvl r0 r1 e0 e1 hN htl hln
      cases ok
      · go_wp2_with (first
          | (go_at_call 141; refine (DV.out _).mono ?_; rintro e w' ⟨rfl, rfl⟩)
          | (go_at_call 142; refine FF.out.mono ?_; rintro e w6 ⟨rfl, hb6⟩; have u0 := kc hb6 s0; have u1 := kc hb6 s1; have v0 := kf hb6 s0 t0; have v1 := kf hb6 s1 t1; have hB6 := bthen hB5 hb6; have hsz6 : w.heap.size < w6.heap.size := cell_lt u0; have hne6 : ¬ (w.heap.size = w6.heap.size) := by omega))
        have Y0 : ((w6.setCell ⟨w.heap.size, 0, none⟩ (.int .i64 0)).setCell ⟨w.heap.size, 1, none⟩ (.int .i64 0)).cell? ⟨w.heap.size, 0, none⟩ = some (.int .i64 0) := by simp [go_sem, u0, u1]
        have Y1 : ((w6.setCell ⟨w.heap.size, 0, none⟩ (.int .i64 0)).setCell ⟨w.heap.size, 1, none⟩ (.int .i64 0)).cell? ⟨w.heap.size, 1, none⟩ = some (.int .i64 0) := by simp [go_sem, u0, u1]
        have Z0 := fun o => kc (bnew _ o) Y0
        have Z1 := fun o => kc (bnew _ o) Y1
        exact bodyPost_ret (v := .tuple #[.agg #[.int .i64 0, .int .i64 0], .int .i64 6]) (by simp [results, Try.results74, go_sem, Z0, Z1]) rfl ⟨rfl, by first | exact balloc ((hB6.setCell (p := ⟨w.heap.size, 0, none⟩) (by simp) _).setCell (p := ⟨w.heap.size, 1, none⟩) (by simp) _) _ | exact ((balloc hB6 _).setCell (p := ⟨w.heap.size, 0, none⟩) (by simp) _).setCell (p := ⟨w.heap.size, 1, none⟩) (by simp) _⟩
      · go_wp2_with (first
          | (go_at_call 141; refine (DV.out _).mono ?_; rintro e w' ⟨rfl, rfl⟩)
          | (go_at_call 142; refine FF.out.mono ?_; rintro e w6 ⟨rfl, hb6⟩; have u0 := kc hb6 s0; have u1 := kc hb6 s1; have v0 := kf hb6 s0 t0; have v1 := kf hb6 s1 t1; have hB6 := bthen hB5 hb6; have hsz6 : w.heap.size < w6.heap.size := cell_lt u0; have hne6 : ¬ (w.heap.size = w6.heap.size) := by omega))
        have Y0 : ((w6.setCell ⟨w.heap.size, 0, none⟩ (.int .i64 ((bt H 0 : Int) - 48))).setCell ⟨w.heap.size, 1, none⟩ (.int .i64 (sumN (dig (tv T T.size)) (tv T T.size).length : Int))).cell? ⟨w.heap.size, 0, none⟩ = some (.int .i64 ((bt H 0 : Int) - 48)) := by simp [go_sem, u0, u1]
        have Y1 : ((w6.setCell ⟨w.heap.size, 0, none⟩ (.int .i64 ((bt H 0 : Int) - 48))).setCell ⟨w.heap.size, 1, none⟩ (.int .i64 (sumN (dig (tv T T.size)) (tv T T.size).length : Int))).cell? ⟨w.heap.size, 1, none⟩ = some (.int .i64 (sumN (dig (tv T T.size)) (tv T T.size).length : Int)) := by simp [go_sem, u0, u1]
        have Z0 := fun o => kc (bnew _ o) Y0
        have Z1 := fun o => kc (bnew _ o) Y1
        exact bodyPost_ret (v := .tuple #[.agg #[.int .i64 ((bt H 0 : Int) - 48), .int .i64 (sumN (dig (tv T T.size)) (tv T T.size).length : Int)], .int .i64 0]) (by simp [results, Try.results74, go_sem, Z0, Z1]) rfl ⟨by rw [tv_len]; rfl, by first | exact balloc ((hB6.setCell (p := ⟨w.heap.size, 0, none⟩) (by simp) _).setCell (p := ⟨w.heap.size, 1, none⟩) (by simp) _) _ | exact ((balloc hB6 _).setCell (p := ⟨w.heap.size, 0, none⟩) (by simp) _).setCell (p := ⟨w.heap.size, 1, none⟩) (by simp) _⟩
end Go.Proofs.Ytdgpjpcdifpllaa

/- V3:
  ParseFunc in both packages, whatever text comes in. -/
namespace Go.Proofs.Ytdgpjpcdifpllaa
open Go.RowKit
set_option linter.unusedVariables false
set_option linter.unusedSimpArgs false

theorem bt58 {s : ByteArray} {k : Nat} (h : k < s.size) : s.data.toList[k]? = some 58 ↔ bt s k = 58 := by
  have h' : k < s.data.size := h
  have e : s.data.toList[k]? = some s[k] := by
    rw [Array.getElem?_toList, Array.getElem?_eq_getElem h']
    rfl
  rw [e]
  simp only [bt, h, dif_pos, Option.some.injEq]
  constructor
  · intro h1; rw [h1]; rfl
  · intro h1; exact UInt8.toNat_inj.1 h1

theorem bt_extract (s : ByteArray) (a b k : Nat) (hb : b ≤ s.size) (hk : a + k < b) : bt (s.extract a b) k = bt s (a + k) := by
  have h1 : k < (s.extract a b).size := by rw [ByteArray.size_extract]; omega
  have h2 : a + k < s.size := by omega
  simp only [bt, h1, h2, dif_pos]
  rw [ByteArray.getElem_extract]

theorem implParseFunc_any (s : ByteArray) (hs : s.size ≤ 1048576) (w : World) :
    Calls Try.prog 74 #[.string s] w (ParsePost (rdOk s) (txN s) (rdB s) w) := by
  have hlen : s.data.toList.length = s.size := by rw [Array.length_toList]; rfl
  have hge := Lib.indexByte_ge s.data.toList 58
  by_cases hi : Lib.indexByte s.data.toList 58 = -1
  · have hno := Lib.indexByte_none hi
    have hr : rdOk s = false := by
      unfold rdOk
      by_cases h3 : 3 ≤ s.size
      · have h1 : ¬ bt s 1 = 58 := fun e => hno 1 ((bt58 (by omega)).2 e)
        simp [h1]
      · simp [h3]
    rw [hr]
    exact ParseFunc_none hs hi _ _ w
  · obtain ⟨o, ho⟩ : ∃ o : Nat, Lib.indexByte s.data.toList 58 = (o : Int) := Int.eq_ofNat_of_zero_le (by omega)
    obtain ⟨hat, hbefore⟩ := Lib.indexByte_some ho
    have hos : o < s.size := by rw [← hlen]; exact (List.getElem?_eq_some_iff.1 hat).1
    have hC := Lib.hid fun W => Cut_some hs hos ho W
    have hHs : (s.extract 0 o).size = o := by rw [ByteArray.size_extract]; omega
    have hTs : (s.extract (o + 1) s.size).size = s.size - (o + 1) := by rw [ByteArray.size_extract]; omega
    by_cases h1 : o = 1
    · subst h1
      have hb0 : bt (s.extract 0 1) 0 = bt s 0 := by have := bt_extract s 0 1 0 (by omega) (by omega); simpa using this
      have hb1 : bt s 1 = 58 := (bt58 hos).1 hat
      by_cases hbig : 16 < s.size - 2
      · have hr : rdOk s = false := by
          unfold rdOk
          cases hn : inB (txN s) 0 4
          · simp
          · have hn2 : 0 ≤ txN s ∧ txN s ≤ 4 := by simpa [inB] using hn
            obtain ⟨R, hR, r0, r16, he⟩ := rowsN_eq hn2.1 hn2.2
            have e : (s.size == 2 + txR s) = false := by unfold txR; rw [← he]; simp; omega
            rw [e]
            simp
        rw [hr]
        exact ParseFunc_off hC (.inr ⟨by rw [hHs]; rfl, by rw [hTs]; simp; omega⟩) _ _ w
      · have hxs : ∀ j, j ≤ s.size - 2 → tv (s.extract (1 + 1) s.size) j = xsTo s j := by
          intro j hj
          unfold tv xsTo
          refine List.map_congr_left fun r hr => ?_
          have hr' := List.mem_range.1 hr
          rw [bt_extract s (1 + 1) s.size r (Nat.le_refl _) (by omega), show 1 + 1 + r = r + 2 by omega]
        have hn0 : ((bt (s.extract 0 1) 0 : Int) - 48) = txN s := by unfold txN; rw [hb0]
        have hok : (inB ((bt (s.extract 0 1) 0 : Int) - 48) 0 4 && (s.size - 2 == 2 ^ ((bt (s.extract 0 1) 0 : Int) - 48).toNat && (tv (s.extract (1 + 1) s.size) (s.size - 2)).all fun v => inB v 0 1)) = rdOk s := by
          rw [hn0, hxs _ (Nat.le_refl _)]
          unfold rdOk
          rw [hb1]
          have hp : 0 < txR s := Nat.pow_pos (by decide)
          by_cases hz : s.size = 2 + txR s
          · have e1 : s.size - 2 = txR s := by omega
            have e2 : 3 ≤ s.size := by omega
            rw [e1, show (txR s == 2 ^ (txN s).toNat) = true from by simp [txR], show (s.size == 2 + txR s) = true from by simp [hz], show decide (3 ≤ s.size) = true from by simp; omega]
            simp
          · have e1 : (s.size == 2 + txR s) = false := by simp [hz]
            have e2 : (s.size - 2 == 2 ^ (txN s).toNat) = false := by
              have : 2 ^ (txN s).toNat = txR s := rfl
              simp
              omega
            rw [e1, e2]
            simp
        have M := ParseFunc_main hC hHs (L := s.size - 2) (by rw [hTs]) (by omega) hok w
        rw [hn0, hxs _ (Nat.le_refl _)] at M
        cases hr : rdOk s
        · rw [hr] at M
          exact M
        · rw [hr] at M
          have hz : s.size = 2 + txR s := by
            unfold rdOk at hr
            simp at hr
            exact hr.2.2.2.1
          unfold rdB
          rw [show s.size - 2 = txR s by omega] at M
          exact M
    · have hr : rdOk s = false := by
        unfold rdOk
        by_cases h3 : 3 ≤ s.size
        · by_cases h0 : o = 0
          · subst h0
            have hb : bt s 0 = 58 := (bt58 (by omega)).1 hat
            have : inB (txN s) 0 4 = false := by unfold txN; rw [hb]; decide
            simp [this]
          · have hb : ¬ bt s 1 = 58 := fun e => hbefore 1 (by omega) ((bt58 (by omega)).2 e)
            simp [hb]
        · simp [h3]
      rw [hr]
      exact ParseFunc_off hC (.inl (by rw [hHs]; simp; omega)) _ _ w
end Go.Proofs.Ytdgpjpcdifpllaa

/- FNewDesk:
  The walk of the law on NewDesk: both packages answer alike, and the answer owns its memory. -/
namespace Go.Proofs.Ytdgpjpcdifpllaa
open Go.RowKit
set_option linter.unusedVariables false
set_option linter.unusedSimpArgs false

set_option maxRecDepth 100000 in
set_option maxHeartbeats 400000 in
theorem implNewDesk_any (w : World) :
    Calls Try.prog 13 #[] w fun e w' => e = .returned (.agg #[.int .i64 2, .int .i64 8, .slice none 0 0, .int .i64 2, .int .i64 13]) ∧ Below w.heap.size w w' := by
  have PF := Lib.hid (fun W => implParseFunc_any ⟨#[50, 58, 48, 48, 48, 49]⟩ (by decide) W)
  obtain ⟨W1, hW1⟩ : ∃ W1, w.alloc (.cells #[.int .i64 0, .int .i64 0, .slice none 0 0, .int .i64 0, .int .i64 0] 28) = W1 := ⟨_, rfl⟩
  have hB : Below w.heap.size w W1 := by rw [← hW1]; exact bnew _ _
  have HP : Hid (BD W1 w.heap.size 0 0 (.slice none 0 0) 0 0) := Lib.hid (by rw [← hW1]; exact BD.new _ _ _ _ _ _ _)
  have r1 : rdOk ⟨#[50, 58, 48, 48, 48, 49]⟩ = true := by decide +kernel
  have r2 : txN ⟨#[50, 58, 48, 48, 48, 49]⟩ = 2 := by decide +kernel
  have r3 : rdB ⟨#[50, 58, 48, 48, 48, 49]⟩ = 8 := by decide +kernel
  rw [r1, r2, r3] at PF
  go_enter Try.func13, Try.ntmps13
  go_wp2_with fail
  clear hW1
  refine (PF.out _).mono ?_
  rintro e w2 ⟨rfl, hb⟩
  have hB2 := bthen hB hb
  have HP2 := Lib.hid (HP.out.below hb)
  clear HP hB hb PF r1 r2 r3
  obtain ⟨c0, c1, c2, c3, c4, f0, f1, f2, f3, f4⟩ := (HP2.out).below (bnew w2 (.cells #[.int .i64 2, .int .i64 8] 23))
  go_wp2_with fail
  refine bodyPost_ret (v := .agg #[.int .i64 2, .int .i64 8, .slice none 0 0, .int .i64 2, .int .i64 13]) (by simp [results, Try.results13, go_sem, c0, c1, c2, c3, c4]) rfl ⟨rfl, ?_⟩
  iterate 5 (refine Below.setCell (p := ⟨w.heap.size, _, none⟩) ?_ (by show w.heap.size ≤ w.heap.size; exact Nat.le_refl _) _)
  exact balloc hB2 _

set_option maxRecDepth 100000 in
set_option maxHeartbeats 400000 in
theorem l11New_any (w : World) :
    Calls Try.prog 73 #[] w fun e w' => ∃ s, e = .returned (.agg #[.int .i64 2, .int .i64 8, s, .int .i64 2, .int .i64 13]) ∧ OwnsF w' w.heap.size s [] ∧ Below w.heap.size w w' := by
  have OL : ∀ W : World, OwnsF (W.alloc (.cells #[] 23)) W.heap.size (.slice (some ⟨W.heap.size, 0, none⟩) 0 0) [] := by
    intro W
    have := World.ownsRow_lit W #[] 0 (base := W.heap.size) (by simp) (by decide) rfl (e := 23) (size := 2)
    simpa [OwnsF, fcells] using this
  have HO := Lib.hid OL
  clear OL
  go_enter Try.func73, Try.ntmps73
  go_wp2_with fail
  refine bodyPost_ret (v := .agg #[.int .i64 2, .int .i64 8, .slice (some ⟨w.heap.size + 1, 0, none⟩) 0 0, .int .i64 2, .int .i64 13]) (by simp [results, Try.results73, go_sem]) rfl ⟨_, rfl, ?_, ?_⟩
  · have := (HO.out (w.alloc (.cells #[.int .i64 2, .int .i64 8, .slice (some ⟨w.heap.size + 1, 0, none⟩) 0 0, .int .i64 2, .int .i64 13] 28))).mono (b2 := w.heap.size) (by simp)
    simpa using this
  · exact balloc (bnew _ _) _

set_option maxRecDepth 100000 in
set_option maxHeartbeats 400000 in
theorem specNewDesk_any (w : World) :
    Calls Try.prog 12 #[] w fun e w' => ∃ s, e = .returned (.agg #[.int .i64 2, .int .i64 8, s, .int .i64 2, .int .i64 13]) ∧ OwnsF w' w.heap.size s [] ∧ Below w.heap.size w w' := by
  have HP := Lib.hid (BD.new w 0 0 (.slice none 0 0) 0 0 28)
  go_enter Try.func12, Try.ntmps12
  go_wp2_with fail
  refine (l11New_any _).mono ?_
  rintro e w2 ⟨s, rfl, o, hb⟩
  have hB := bthen (bnew w _) hb
  obtain ⟨c0, c1, c2, c3, c4, f0, f1, f2, f3, f4⟩ := HP.out.below hb
  obtain ⟨a, k, rfl, _⟩ := o.cells
  have HO := Lib.hid o
  clear o HP
  go_wp2_with fail
  refine bodyPost_ret (v := .agg #[.int .i64 2, .int .i64 8, .slice a ([] : List (Int × Int)).length k, .int .i64 2, .int .i64 13]) (by simp [results, Try.results12, go_sem, c0, c1, c2, c3, c4]) rfl ⟨_, rfl, ?_, ?_⟩
  · refine OwnsF.mono (b1 := w.heap.size + 1) ?_ (by omega)
    iterate 5 (refine OwnsF.setB ?_ (by omega) _ _)
    simpa using HO.out
  · iterate 5 (refine Below.setCell (p := ⟨w.heap.size, _, none⟩) ?_ (by show w.heap.size ≤ w.heap.size; exact Nat.le_refl _) _)
    exact hB

/-- The marks of a desk without functions. -/
theorem markDesk_nil (w : World) :
    Calls Try.prog 15 #[.agg #[.int .i64 2, .int .i64 8, .slice none 0 0, .int .i64 2, .int .i64 13], .int .i64 1] w fun e w' => e = .returned (.int .i64 1) ∧ Below w.heap.size w w' := by
  obtain ⟨c0, c1, c2, c3, c4, _, _, _, _, _⟩ := BD.new w 2 8 (.slice none 0 0) 2 13 28
  go_enter Try.func15, Try.ntmps15
  go_wp2_with fail
  refine (markFuncS_any (base := 0) (xs := []) (by simp) 1 (by omega) (by omega) _ (OwnsF.nil _ _)).mono ?_
  rintro e w2 ⟨rfl, _, hg⟩
  have hb : Below w.heap.size w w2 := (bnew w _).grown hg (by simp) (fun j e => by simp [Value.ownBlock] at e)
  clear hg
  go_wp2
  go_ret
  exact ⟨by simp, hb⟩
theorem heldDesk_nil (w : World) :
    Calls Try.prog 16 #[.agg #[.int .i64 2, .int .i64 8, .slice none 0 0, .int .i64 2, .int .i64 13], .int .i64 1] w fun e w' => e = .returned (.int .i64 1) ∧ Below w.heap.size w w' := by
  obtain ⟨c0, c1, c2, c3, c4, _, _, _, _, _⟩ := BD.new w 2 8 (.slice none 0 0) 2 13 28
  go_enter Try.func16, Try.ntmps16
  go_wp2_with fail
  refine (heldFuncS_any (base := 0) (n := 0) (by omega) 1 (by omega) (by omega) _ (OwnsF.nil _ _)).mono ?_
  rintro e w2 ⟨rfl, rfl⟩
  go_wp2
  go_ret
  exact ⟨rfl, bnew _ _⟩

set_option maxRecDepth 100000 in
set_option maxHeartbeats 400000 in
theorem fnExactNewDesk_walk (w : World) :
    Calls Try.prog 3 #[] w fun e w' => e = .returned (.bool true) ∧ Below w.heap.size w w' := by
  go_enter Try.func3, Try.ntmps3
  go_wp2_with fail
  refine (specNewDesk_any _).mono ?_
  rintro e w1 ⟨s, rfl, o1, b1⟩
  obtain ⟨a, k, rfl, _⟩ := o1.cells
  have HP := Lib.hid (BD.new w1 2 8 (.slice a ([] : List (Int × Int)).length k) 2 13 28)
  have HB := Lib.hid (balloc b1 (.cells #[.int .i64 2, .int .i64 8, .slice a ([] : List (Int × Int)).length k, .int .i64 2, .int .i64 13] 28))
  have HO := Lib.hid (o1.below (bnew w1 (.cells #[.int .i64 2, .int .i64 8, .slice a ([] : List (Int × Int)).length k, .int .i64 2, .int .i64 13] 28)))
  clear o1 b1
  go_wp2_with fail
  refine (implNewDesk_any _).mono ?_
  rintro e w2 ⟨rfl, b2⟩
  have HP2 := HP.out.below b2
  have HO2 := Lib.hid (HO.out.below b2)
  have HB2 := Lib.hid (bthen HB.out b2)
  clear HP HO HB b2
  obtain ⟨W3, hW3⟩ : ∃ W3, w2.alloc (.cells #[.int .i64 2, .int .i64 8, .slice none 0 0, .int .i64 2, .int .i64 13] 28) = W3 := ⟨_, rfl⟩
  have HP3 := Lib.hid (show BD W3 _ _ _ _ _ _ by rw [← hW3]; exact HP2.below (bnew w2 _))
  have HG3 := Lib.hid (show BD W3 w2.heap.size 2 8 (.slice none 0 0) 2 13 by rw [← hW3]; exact BD.new w2 2 8 (.slice none 0 0) 2 13 28)
  have HO3 := Lib.hid (show OwnsF W3 _ _ _ by rw [← hW3]; exact HO2.out.below (bnew w2 _))
  have HB3 := Lib.hid (show Below w.heap.size w W3 by rw [← hW3]; exact balloc HB2.out _)
  clear HP2 HO2 HB2
  obtain ⟨p0, p1, p2, p3, p4, _, _, _, _, _⟩ := HP3.out
  obtain ⟨q0, q1, q2, q3, q4, _, _, _, _, _⟩ := HG3.out
  go_wp2_with fail
  clear hW3
  refine (eqDesk_same (b1 := 0) (xs := []) (by simp) 2 8 2 13 _ (OwnsF.nil _ _) HO3.out).mono ?_
  rintro e w4 ⟨rfl, b4⟩
  have HG4 := Lib.hid (HG3.out.below b4)
  have HP4 := Lib.hid (HP3.out.below b4)
  have HO4 := Lib.hid (HO3.out.below b4)
  have HB4 := Lib.hid (bthen HB3.out b4)
  clear HG3 HP3 HO3 HB3 b4 p0 p1 p2 p3 p4 q0 q1 q2 q3 q4
  obtain ⟨g0, g1, g2, g3, g4, _, _, _, _, _⟩ := HG4.out
  go_wp2_with fail
  refine (markDesk_nil _).mono ?_
  rintro e w5 ⟨rfl, b5⟩
  have HG5 := Lib.hid (HG4.out.below b5)
  have HP5 := Lib.hid (HP4.out.below b5)
  have HO5 := Lib.hid (HO4.out.below b5)
  have HB5 := Lib.hid (bthen HB4.out b5)
  clear HG4 HP4 HO4 HB4 b5 g0 g1 g2 g3 g4
  obtain ⟨g0, g1, g2, g3, g4, _, _, _, _, _⟩ := HG5.out
  go_wp2_with fail
  refine (heldDesk_nil _).mono ?_
  rintro e w6 ⟨rfl, b6⟩
  have HG6 := Lib.hid (HG5.out.below b6)
  have HP6 := Lib.hid (HP5.out.below b6)
  have HO6 := Lib.hid (HO5.out.below b6)
  have HB6 := Lib.hid (bthen HB5.out b6)
  clear HG5 HP5 HO5 HB5 b6 g0 g1 g2 g3 g4
  go_wp2_with fail
  refine (implNewDesk_any _).mono ?_
  rintro e w7 ⟨rfl, b7⟩
  have HG7 := HG6.out.below b7
  have HP7 := HP6.out.below b7
  have HO7 := HO6.out.below b7
  have HB7 := bthen HB6.out b7
  clear HG6 HP6 HO6 HB6 b7
  obtain ⟨W8, hW8⟩ : ∃ W8, w7.alloc (.cells #[.int .i64 2, .int .i64 8, .slice none 0 0, .int .i64 2, .int .i64 13] 28) = W8 := ⟨_, rfl⟩
  have HP8 := Lib.hid (show BD W8 _ _ _ _ _ _ by rw [← hW8]; exact HP7.below (bnew w7 _))
  have HG8 := Lib.hid (show BD W8 _ _ _ _ _ _ by rw [← hW8]; exact HG7.below (bnew w7 _))
  have HH8 := Lib.hid (show BD W8 w7.heap.size 2 8 (.slice none 0 0) 2 13 by rw [← hW8]; exact BD.new w7 2 8 (.slice none 0 0) 2 13 28)
  have HO8 := Lib.hid (show OwnsF W8 _ _ _ by rw [← hW8]; exact HO7.below (bnew w7 _))
  have HB8 := Lib.hid (show Below w.heap.size w W8 by rw [← hW8]; exact balloc HB7 _)
  clear HP7 HG7 HO7 HB7
  obtain ⟨p0, p1, p2, p3, p4, _, _, _, _, _⟩ := HP8.out
  obtain ⟨q0, q1, q2, q3, q4, _, _, _, _, _⟩ := HH8.out
  go_wp2_with fail
  clear hW8
  refine (eqDesk_same (b1 := 0) (xs := []) (by simp) 2 8 2 13 _ (OwnsF.nil _ _) HO8.out).mono ?_
  rintro e w9 ⟨rfl, b9⟩
  have HG9 := Lib.hid (HG8.out.below b9)
  have HB9 := Lib.hid (bthen HB8.out b9)
  clear HG8 HP8 HO8 HB8 HH8 b9 p0 p1 p2 p3 p4 q0 q1 q2 q3 q4
  obtain ⟨g0, g1, g2, g3, g4, _, _, _, _, _⟩ := HG9.out
  go_wp2_with fail
  refine (heldDesk_nil _).mono ?_
  rintro e w10 ⟨rfl, b10⟩
  have HB10 := Lib.hid (bthen HB9.out b10)
  clear HG9 HB9 b10 g0 g1 g2 g3 g4
  go_wp2_with fail
  go_ret
  exact ⟨rfl, HB10.out⟩
end Go.Proofs.Ytdgpjpcdifpllaa
