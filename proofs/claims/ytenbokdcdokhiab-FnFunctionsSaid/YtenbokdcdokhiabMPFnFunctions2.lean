/-
  The texts KCo, KSf, KM, U1, U2, FM, TB, W4, X1, X2, X3 in one.
-/
import Derived.Test.YtenbokdcdokhiabMPFnFunctions1
import Derived.Laws.IdiomStrings
import Derived.Laws.Concat
import Derived.Lib.Bytealg
import Derived.Lib.IndexLaws
import Derived.Maps.RangeWalk
import Derived.Maps.StringElems
import Derived.DeepKeys5
import Derived.Deep.RegionWith

/- KCo:
  CountInClass and CountSheffer in both packages. -/
namespace Go.Proofs.Ytenbokdcdokhiab
open Go.RowKit

/-- The functions of an arity: their rows, their number. -/
theorem arity_nums {n : Int} (h0 : 0 ≤ n) (h4 : n ≤ 4) : ∃ R T : Nat, 0 < R ∧ R ≤ 16 ∧ Hid (rowsN n = (R : Int)) ∧ Hid (T = 2 ^ R) ∧ 0 < T ∧ T ≤ 65536 ∧ Hid (allN n = (T : Int) - 1) ∧ ∀ x, x < T → FOk n x R := by
  obtain ⟨R, hR, r0, r16, he⟩ := rowsN_eq h0 h4
  have h16 : (2 : Nat) ^ R ≤ 2 ^ 16 := Nat.pow_le_pow_right (by decide) r16
  have hp : 0 < 2 ^ R := Nat.two_pow_pos R
  refine ⟨R, 2 ^ R, r0, r16, Lib.hid hR, Lib.hid rfl, hp, h16, Lib.hid ?_, fun x hx => ⟨h0, h4, r0, r16, Lib.hid hR, by omega, he, hx⟩⟩
  rw [allN_rows he]
  omega

theorem l01All_top {n : Int} {T : Nat} (h0 : 0 ≤ n) (h4 : n ≤ 4) (hA : Hid (allN n = (T : Int) - 1)) (w : World) :
    Calls Try.prog 233 #[.int .i64 n] w fun e w' => e = .returned (.int .i64 ((T : Int) - 1)) ∧ w = w' := hA.out ▸ l01All_any n h0 h4 w

set_option maxRecDepth 100000 in
set_option maxHeartbeats 1000000 in
theorem CountInClass1_any {n : Int} {x R : Nat} (ok : FOk n x R) (k : Nat) (hk : k ≤ 4) (bk : Nat) (w : World) (cK : w.cell? ⟨bk, 0, none⟩ = some (.int .i64 (k : Int))) :
    Calls Try.prog 232 #[.agg #[.int .i64 n, .int .i64 (x : Int)], .pointer (some ⟨bk, 0, none⟩)] w fun e w' => e = .returned (.bool (clsN n.toNat x R k)) ∧ Below w.heap.size w w' := by
  have hlt := cell_lt cK
  go_enter Try.func232, Try.ntmps232
  go_wp2_with (go_at_call 230; refine (isInClass_is ok k hk rfl _).mono ?_; rintro e w2 ⟨rfl, hb2⟩)
  go_ret
  exact ⟨rfl, bthen (bnew _ _) hb2⟩

theorem countCls {n : Int} {R T : Nat} (h0 : 0 ≤ n) (h4 : n ≤ 4) (r0 : 0 < R) (r16 : R ≤ 16) (hR : Hid (rowsN n = (R : Int))) (hT : Hid (T = 2 ^ R)) (hT0 : 0 < T) (hT16 : T ≤ 65536) (ok : ∀ x, x < T → FOk n x R) (k : Nat) (hk : k ≤ 4) (bk : Nat) (W : World) (cK : W.cell? ⟨bk, 0, none⟩ = some (.int .i64 (k : Int))) :
    Calls Try.prog 231 #[.int .i64 n, .func (.func 232) #[] #[.pointer (some ⟨bk, 0, none⟩)]] W fun e W' => e = .returned (.int .i64 (cntTo (fun x => clsN n.toNat x R k) T : Int)) ∧ Below W.heap.size W W' :=
  countFuncs_any n h0 h4 R T r0 r16 hR hT hT0 hT16 232 #[.pointer (some ⟨bk, 0, none⟩)] (enters_of Try.func232 (by kernel_rfl) rfl)
    (fun x => clsN n.toNat x R k) W (Lib.hid fun W' hW x hx => CountInClass1_any (ok x hx) k hk bk W' (kc hW cK))

theorem countSh {n : Int} {R T : Nat} (h0 : 0 ≤ n) (h4 : n ≤ 4) (r0 : 0 < R) (r16 : R ≤ 16) (hR : Hid (rowsN n = (R : Int))) (hT : Hid (T = 2 ^ R)) (hT0 : 0 < T) (hT16 : T ≤ 65536) (ok : ∀ x, x < T → FOk n x R) (W : World) :
    Calls Try.prog 231 #[.int .i64 n, .func (.func 234) #[] #[]] W fun e W' => e = .returned (.int .i64 (cntTo (fun x => noneTo n.toNat x R 5) T : Int)) ∧ Below W.heap.size W W' :=
  countFuncs_any n h0 h4 R T r0 r16 hR hT hT0 hT16 234 #[] (enters_of Try.func234 (by kernel_rfl) rfl)
    (fun x => noneTo n.toNat x R 5) W (Lib.hid fun W' _ x hx => isSheffer_any (ok x hx) W')

set_option maxRecDepth 100000 in
set_option maxHeartbeats 1000000 in
theorem implCountInClass_no (n k : Int) (h : inB n 0 4 = false ∨ (inB n 0 4 = true ∧ inB k 0 4 = false)) (w : World) :
    Calls Try.prog 113 #[.int .i64 n, .int .i64 k] w fun e w' => e = .returned (.tuple #[.int .i64 0, .int .i64 2]) ∧ Below w.heap.size w w' := by
  rcases h with h | ⟨h, h2⟩
  · go_enter Try.func113, Try.ntmps113
    go_wp2_with (go_at_call 140; refine (isArity_is h _).mono ?_; rintro e w' ⟨rfl, rfl⟩)
    go_ret2
    exact ⟨rfl, bnew _ _⟩
  · go_enter Try.func113, Try.ntmps113
    go_wp2_with (first
      | (go_at_call 140; refine (isArity_is h _).mono ?_; rintro e w' ⟨rfl, rfl⟩)
      | (go_at_call 229; refine (isClass_is h2 _).mono ?_; rintro e w' ⟨rfl, rfl⟩))
    go_ret2
    exact ⟨rfl, bnew _ _⟩

set_option maxRecDepth 100000 in
set_option maxHeartbeats 1000000 in
theorem specCountInClass_no (n k : Int) (h : inB n 0 4 = false ∨ (inB n 0 4 = true ∧ inB k 0 4 = false)) (w : World) :
    Calls Try.prog 114 #[.int .i64 n, .int .i64 k] w fun e w' => e = .returned (.tuple #[.int .i64 0, .int .i64 2]) ∧ Below w.heap.size w w' := by
  rcases h with h | ⟨h, h2⟩
  · go_enter Try.func114, Try.ntmps114
    go_wp2_with (go_at_call 154; refine (l01In_is h _).mono ?_; rintro e w' ⟨rfl, rfl⟩)
    go_ret2
    exact ⟨rfl, Below.refl _ _⟩
  · go_enter Try.func114, Try.ntmps114
    go_wp2_with fail
    refine (l01In_is h _).mono ?_
    rintro e w' ⟨rfl, rfl⟩
    go_wp2_with fail
    refine (l01In_is h2 _).mono ?_
    rintro e w' ⟨rfl, rfl⟩
    go_wp2
    go_ret2
    exact ⟨rfl, Below.refl _ _⟩

set_option maxRecDepth 100000 in
set_option maxHeartbeats 1000000 in
theorem implCountInClass_yes (n : Int) (h : inB n 0 4 = true) (h0 : 0 ≤ n) (h4 : n ≤ 4) (k : Nat) (hk : k ≤ 4) {R T : Nat} (r0 : 0 < R) (r16 : R ≤ 16) (hR : Hid (rowsN n = (R : Int))) (hT : Hid (T = 2 ^ R)) (hT0 : 0 < T) (hT16 : T ≤ 65536) (ok : ∀ x, x < T → FOk n x R) (w : World) :
    Calls Try.prog 113 #[.int .i64 n, .int .i64 (k : Int)] w fun e w' => e = .returned (.tuple #[.int .i64 (cntTo (fun x => clsN n.toNat x R k) T : Int), .int .i64 0]) ∧ Below w.heap.size w w' := by
  have hi : inB (k : Int) 0 4 = true := inB_true (by omega) (by omega)
  obtain ⟨W1, hW1⟩ : ∃ W1, w.alloc (.cells #[.int .i64 (k : Int)] 2) = W1 := ⟨_, rfl⟩
  have p0 : W1.cell? ⟨w.heap.size, 0, none⟩ = some (.int .i64 (k : Int)) := by rw [← hW1]; simp [go_sem]
  have hB : Below w.heap.size w W1 := by rw [← hW1]; exact bnew _ _
  go_enter Try.func113, Try.ntmps113
  go_wp2_with (first
    | (go_at_call 140; refine (isArity_is h _).mono ?_; rintro e w' ⟨rfl, rfl⟩)
    | (go_at_call 229; refine (isClass_is hi _).mono ?_; rintro e w' ⟨rfl, rfl⟩)
    | (go_at_call 231; refine (countCls h0 h4 r0 r16 hR hT hT0 hT16 ok k hk w.heap.size _ p0).mono ?_; rintro e w2 ⟨rfl, hb2⟩))
  go_ret2
  exact ⟨rfl, bthen hB hb2⟩

set_option maxRecDepth 100000 in
set_option maxHeartbeats 2000000 in
theorem specCountInClass_yes (n : Int) (h : inB n 0 4 = true) (h0 : 0 ≤ n) (h4 : n ≤ 4) (k : Nat) (hk : k ≤ 4) {R T : Nat} (hT0 : 0 < T) (hT16 : T ≤ 65536) (hA : Hid (allN n = (T : Int) - 1)) (ok : ∀ x, x < T → FOk n x R) (w : World) :
    Calls Try.prog 114 #[.int .i64 n, .int .i64 (k : Int)] w fun e w' => e = .returned (.tuple #[.int .i64 (cntTo (fun x => clsN n.toNat x R k) T : Int), .int .i64 0]) ∧ Below w.heap.size w w' := by
  have hi : inB (k : Int) 0 4 = true := inB_true (by omega) (by omega)
  go_enter Try.func114, Try.ntmps114
  go_wp2_with fail
  refine (l01In_is h _).mono ?_
  rintro e w' ⟨rfl, rfl⟩
  go_wp2_with fail
  refine (l01In_is hi _).mono ?_
  rintro e w' ⟨rfl, rfl⟩
  go_wp2
  go_loopw [6, 7] (fun c' b' wr => ∃ b : Nat, b ≤ T ∧ b' = .int .i64 b ∧ c' = .int .i64 (cntTo (fun x => clsN n.toNat x R k) b : Int) ∧ Below w.heap.size w wr)
    (fun _ b' _ => T - (intOf b').toNat)
  case atStart => exact ⟨0, by omega, rfl, rfl, Below.refl _ _⟩
  case round =>
    obtain ⟨b, hb, rfl, rfl, hB⟩ := hrel
    have hle := cntTo_le (fun x => clsN n.toNat x R k) b
    by_cases hlt : b < T
    · have hs := cntTo_succ (fun x => clsN n.toNat x R k) b
      have hok := Lib.hid (ok b hlt)
      cases hc : clsN n.toNat b R k
      · have HS := Lib.hid (show cntTo (fun x => clsN n.toNat x R k) (b + 1) = cntTo (fun x => clsN n.toNat x R k) b by rw [hs, hc]; rfl)
        have HC := Lib.hid hc
        clear hs hc
        go_wp2_with (first
          | (go_at_call 233; refine (l01All_top h0 h4 hA _).mono ?_; rintro e w' ⟨rfl, rfl⟩)
          | (go_at_call 228; refine (l02In_is hok.out k hk HC.out _).mono ?_; rintro e w2 ⟨rfl, hb2⟩))
        go_roundw
        case rel => exact ⟨b + 1, by omega, by go_num, by rw [HS.out], bthen hB hb2⟩
        case measure => simp [intOf]; omega
      · have HS := Lib.hid (show cntTo (fun x => clsN n.toNat x R k) (b + 1) = cntTo (fun x => clsN n.toNat x R k) b + 1 by rw [hs, hc]; rfl)
        have HC := Lib.hid hc
        clear hs hc
        go_wp2_with (first
          | (go_at_call 233; refine (l01All_top h0 h4 hA _).mono ?_; rintro e w' ⟨rfl, rfl⟩)
          | (go_at_call 228; refine (l02In_is hok.out k hk HC.out _).mono ?_; rintro e w2 ⟨rfl, hb2⟩))
        go_roundw
        case rel => exact ⟨b + 1, by omega, by go_num, by rw [HS.out]; go_num, bthen hB hb2⟩
        case measure => simp [intOf]; omega
    · obtain rfl : b = T := by omega
      go_wp2_with (go_at_call 233; refine (l01All_top h0 h4 hA _).mono ?_; rintro e w' ⟨rfl, rfl⟩)
      go_ret2
      exact ⟨rfl, hB⟩

theorem bothCountInClass (n k : Int) (_ : (Lit.int .i64 n).wf = true) (_ : (Lit.int .i64 k).wf = true) : ∃ ra rc : Int,
    (∀ w, Calls Try.prog 114 #[.int .i64 n, .int .i64 k] w fun e w' => e = .returned (.tuple #[.int .i64 ra, .int .i64 rc]) ∧ Below w.heap.size w w') ∧
    (∀ w, Calls Try.prog 113 #[.int .i64 n, .int .i64 k] w fun e w' => e = .returned (.tuple #[.int .i64 ra, .int .i64 rc]) ∧ Below w.heap.size w w') := by
  cases h : inB n 0 4
  · exact ⟨_, _, specCountInClass_no n k (.inl h), implCountInClass_no n k (.inl h)⟩
  · cases hk : inB k 0 4
    · exact ⟨_, _, specCountInClass_no n k (.inr ⟨h, hk⟩), implCountInClass_no n k (.inr ⟨h, hk⟩)⟩
    · have hn2 : 0 ≤ n ∧ n ≤ 4 := by simpa [inB] using h
      have hk2 : 0 ≤ k ∧ k ≤ 4 := by simpa [inB] using hk
      obtain ⟨j, rfl⟩ := Int.eq_ofNat_of_zero_le hk2.1
      obtain ⟨R, T, r0, r16, hR, hT, hT0, hT16, hA, ok⟩ := arity_nums hn2.1 hn2.2
      exact ⟨_, _, specCountInClass_yes n h hn2.1 hn2.2 j (by omega) hT0 hT16 hA ok, implCountInClass_yes n h hn2.1 hn2.2 j (by omega) r0 r16 hR hT hT0 hT16 ok⟩

set_option maxRecDepth 100000 in
set_option maxHeartbeats 1000000 in
theorem implCountSheffer_no (n : Int) (h : inB n 0 4 = false) (w : World) :
    Calls Try.prog 123 #[.int .i64 n] w fun e w' => e = .returned (.tuple #[.int .i64 0, .int .i64 2]) ∧ Below w.heap.size w w' := by
  go_enter Try.func123, Try.ntmps123
  go_wp2_with (go_at_call 140; refine (isArity_is h _).mono ?_; rintro e w' ⟨rfl, rfl⟩)
  go_ret2
  exact ⟨rfl, Below.refl _ _⟩

set_option maxRecDepth 100000 in
set_option maxHeartbeats 1000000 in
theorem specCountSheffer_no (n : Int) (h : inB n 0 4 = false) (w : World) :
    Calls Try.prog 124 #[.int .i64 n] w fun e w' => e = .returned (.tuple #[.int .i64 0, .int .i64 2]) ∧ Below w.heap.size w w' := by
  go_enter Try.func124, Try.ntmps124
  go_wp2_with (go_at_call 154; refine (l01In_is h _).mono ?_; rintro e w' ⟨rfl, rfl⟩)
  go_ret2
  exact ⟨rfl, Below.refl _ _⟩

set_option maxRecDepth 100000 in
set_option maxHeartbeats 1000000 in
theorem implCountSheffer_yes (n : Int) (h : inB n 0 4 = true) (h0 : 0 ≤ n) (h4 : n ≤ 4) {R T : Nat} (r0 : 0 < R) (r16 : R ≤ 16) (hR : Hid (rowsN n = (R : Int))) (hT : Hid (T = 2 ^ R)) (hT0 : 0 < T) (hT16 : T ≤ 65536) (ok : ∀ x, x < T → FOk n x R) (w : World) :
    Calls Try.prog 123 #[.int .i64 n] w fun e w' => e = .returned (.tuple #[.int .i64 (cntTo (fun x => noneTo n.toNat x R 5) T : Int), .int .i64 0]) ∧ Below w.heap.size w w' := by
  go_enter Try.func123, Try.ntmps123
  go_wp2_with (first
    | (go_at_call 140; refine (isArity_is h _).mono ?_; rintro e w' ⟨rfl, rfl⟩)
    | (go_at_call 231; refine (countSh h0 h4 r0 r16 hR hT hT0 hT16 ok _).mono ?_; rintro e w2 ⟨rfl, hb2⟩))
  go_ret2
  exact ⟨rfl, hb2⟩

set_option maxRecDepth 100000 in
set_option maxHeartbeats 2000000 in
theorem specCountSheffer_yes (n : Int) (h : inB n 0 4 = true) (h0 : 0 ≤ n) (h4 : n ≤ 4) {R T : Nat} (hT0 : 0 < T) (hT16 : T ≤ 65536) (hA : Hid (allN n = (T : Int) - 1)) (ok : ∀ x, x < T → FOk n x R) (w : World) :
    Calls Try.prog 124 #[.int .i64 n] w fun e w' => e = .returned (.tuple #[.int .i64 (cntTo (fun x => noneTo n.toNat x R 5) T : Int), .int .i64 0]) ∧ Below w.heap.size w w' := by
  go_enter Try.func124, Try.ntmps124
  go_wp2_with (go_at_call 154; refine (l01In_is h _).mono ?_; rintro e w' ⟨rfl, rfl⟩)
  go_loopw [4, 5] (fun c' b' wr => ∃ b : Nat, b ≤ T ∧ b' = .int .i64 b ∧ c' = .int .i64 (cntTo (fun x => noneTo n.toNat x R 5) b : Int) ∧ Below w.heap.size w wr)
    (fun _ b' _ => T - (intOf b').toNat)
  case atStart => exact ⟨0, by omega, rfl, rfl, Below.refl _ _⟩
  case round =>
    obtain ⟨b, hb, rfl, rfl, hB⟩ := hrel
    have hle := cntTo_le (fun x => noneTo n.toNat x R 5) b
    by_cases hlt : b < T
    · have hs := cntTo_succ (fun x => noneTo n.toNat x R 5) b
      have hok := Lib.hid (l02Sheffer_any (ok b hlt))
      cases hc : noneTo n.toNat b R 5
      · rw [hc] at hok
        have HS := Lib.hid (show cntTo (fun x => noneTo n.toNat x R 5) (b + 1) = cntTo (fun x => noneTo n.toNat x R 5) b by rw [hs, hc]; rfl)
        clear hs hc
        go_wp2_with (first
          | (go_at_call 233; refine (l01All_top h0 h4 hA _).mono ?_; rintro e w' ⟨rfl, rfl⟩)
          | (go_at_call 235; refine (hok.out _).mono ?_; rintro e w2 ⟨rfl, hb2⟩))
        go_roundw
        case rel => exact ⟨b + 1, by omega, by go_num, by rw [HS.out], bthen hB hb2⟩
        case measure => simp [intOf]; omega
      · rw [hc] at hok
        have HS := Lib.hid (show cntTo (fun x => noneTo n.toNat x R 5) (b + 1) = cntTo (fun x => noneTo n.toNat x R 5) b + 1 by rw [hs, hc]; rfl)
        clear hs hc
        go_wp2_with (first
          | (go_at_call 233; refine (l01All_top h0 h4 hA _).mono ?_; rintro e w' ⟨rfl, rfl⟩)
          | (go_at_call 235; refine (hok.out _).mono ?_; rintro e w2 ⟨rfl, hb2⟩))
        go_roundw
        case rel => exact ⟨b + 1, by omega, by go_num, by rw [HS.out]; go_num, bthen hB hb2⟩
        case measure => simp [intOf]; omega
    · obtain rfl : b = T := by omega
      go_wp2_with (go_at_call 233; refine (l01All_top h0 h4 hA _).mono ?_; rintro e w' ⟨rfl, rfl⟩)
      go_ret2
      exact ⟨rfl, hB⟩

theorem bothCountSheffer (n : Int) (_ : (Lit.int .i64 n).wf = true) : ∃ ra rc : Int,
    (∀ w, Calls Try.prog 124 #[.int .i64 n] w fun e w' => e = .returned (.tuple #[.int .i64 ra, .int .i64 rc]) ∧ Below w.heap.size w w') ∧
    (∀ w, Calls Try.prog 123 #[.int .i64 n] w fun e w' => e = .returned (.tuple #[.int .i64 ra, .int .i64 rc]) ∧ Below w.heap.size w w') := by
  cases h : inB n 0 4
  · exact ⟨_, _, specCountSheffer_no n h, implCountSheffer_no n h⟩
  · have hn2 : 0 ≤ n ∧ n ≤ 4 := by simpa [inB] using h
    obtain ⟨R, T, r0, r16, hR, hT, hT0, hT16, hA, ok⟩ := arity_nums hn2.1 hn2.2
    exact ⟨_, _, specCountSheffer_yes n h hn2.1 hn2.2 hT0 hT16 hA ok, implCountSheffer_yes n h hn2.1 hn2.2 r0 r16 hR hT hT0 hT16 ok⟩
end Go.Proofs.Ytenbokdcdokhiab

/- KSf:
  ShefferFunctions in both packages. -/
namespace Go.Proofs.Ytenbokdcdokhiab
open Go.RowKit Go.Shelf
attribute [local go_sem] Oper.semAt_some

/-- The Sheffer functions among those below k. -/
def shfL (n : Int) (R k : Nat) : List (Int × Int) := ((List.range k).filter fun x => noneTo n.toNat x R 5).map fun (x : Nat) => (n, (x : Int))
theorem shfL_yes (n : Int) (R k : Nat) (h : noneTo n.toNat k R 5 = true) : shfL n R (k + 1) = shfL n R k ++ [(n, (k : Int))] := by simp [shfL, List.range_succ, h]
theorem shfL_no (n : Int) (R k : Nat) (h : noneTo n.toNat k R 5 = false) : shfL n R (k + 1) = shfL n R k := by simp [shfL, List.range_succ, h]
theorem shfL_len (n : Int) (R k : Nat) : (shfL n R k).length ≤ k := by
  unfold shfL
  rw [List.length_map]
  exact Nat.le_trans (List.length_filter_le _ _) (by simp)

set_option maxRecDepth 100000 in
set_option maxHeartbeats 2000000 in
theorem specShefferFunctions_yes (n : Int) (h : inB n 0 3 = true) (h0 : 0 ≤ n) (h4 : n ≤ 4) {R T : Nat} (hT0 : 0 < T) (hT16 : T ≤ 65536) (hA : Hid (allN n = (T : Int) - 1)) (ok : ∀ x, x < T → FOk n x R) (w : World) :
    Calls Try.prog 120 #[.int .i64 n] w (FListCodePost w.heap.size (shfL n R T) 0 w) := by
  obtain ⟨i0, hi, hz0, hz1, hz2⟩ := info_parts infoF
  go_enter Try.func120, Try.ntmps120
  go_wp2_with (go_at_call 154; refine (l01In_is h _).mono ?_; rintro e w' ⟨rfl, rfl⟩)
  go_loopw [4, 5] (fun s b' wr => ∃ b : Nat, b ≤ T ∧ b' = .int .i64 b ∧ OwnsF wr w.heap.size s (shfL n R b) ∧ Below w.heap.size w wr)
    (fun _ b' _ => T - (intOf b').toNat)
  case atStart => exact ⟨0, by omega, rfl, World.ownsRow_lit w #[] 0 (Nat.le_refl _) (by decide) rfl, bnew _ _⟩
  case round =>
    obtain ⟨b, hb, rfl, hown, hN⟩ := hrel
    have hle := shfL_len n R b
    have hsz := hN.size
    by_cases hlt : b < T
    · have hok := Lib.hid (l02Sheffer_any (ok b hlt))
      cases hc : noneTo n.toNat b R 5
      · rw [hc] at hok
        have HS := Lib.hid (shfL_no n R b hc)
        clear hc
        go_wp2_with (first
          | (go_at_call 233; refine (l01All_top h0 h4 hA _).mono ?_; rintro e w' ⟨rfl, rfl⟩)
          | (go_at_call 235; refine (hok.out _).mono ?_; rintro e w2 ⟨rfl, hb2⟩))
        go_roundw
        case rel => exact ⟨b + 1, by omega, by go_num, by rw [HS.out]; exact (OwnsF.below hown (bnew _ _)).below hb2, bthen hN (bthen (bnew _ _) hb2)⟩
        case measure => simp [intOf]; omega
      · rw [hc] at hok
        have HS := Lib.hid (shfL_yes n R b hc)
        clear hc
        obtain ⟨W1, hW1⟩ : ∃ W1, wr.alloc (.cells #[.int .i64 n, .int .i64 (b : Int)] 25) = W1 := ⟨_, rfl⟩
        have p0 : W1.cell? ⟨wr.heap.size, 0, none⟩ = some (.int .i64 n) := by rw [← hW1]; simp [go_sem]
        have p1 : W1.cell? ⟨wr.heap.size, 1, none⟩ = some (.int .i64 (b : Int)) := by rw [← hW1]; simp [go_sem]
        have hB1 : Below wr.heap.size wr W1 := by rw [← hW1]; exact bnew _ _
        go_wp2_with (first
          | (go_at_call 233; refine (l01All_top h0 h4 hA _).mono ?_; rintro e w' ⟨rfl, rfl⟩)
          | (go_at_call 235; refine (hok.out _).mono ?_; rintro e w2 ⟨rfl, hb2⟩; have q0 := kc hb2 p0; have q1 := kc hb2 p1; have hown5 : World.ownsRow _ _ _ _ _ _ _ := (hown.below hB1).below hb2; have hN5 := bthen hN (bthen hB1 hb2); have hs5 := hN5.size)
          | (at_builtin; refine wpList_append_own _ rfl _ _ 52 rfl w.heap.size 25 i0 (.agg #[.int .i64 0, .int .i64 0]) 2 16 Try.underlying52 hi hz0 hz1 hz2 rfl (by decide) _ _ _ rfl (hown5.alloc _) ⟨w2.heap.size, 0, none⟩ 1 1 [.int .i64 n, .int .i64 (b : Int)] rfl rfl (cell_two_new _ _ _ _) (one_cell_two _ _) (by unfold maxLen; omega) (by omega) (by simp; omega) ?_))
        intro v' w1 hown' hgrow _
        have hN' := (balloc hN5 (.cells #[.int .i64 n, .int .i64 (b : Int)] 25)).grown hgrow (by simp; omega) (fun j e => (hown5.lt j e).1)
        clear hgrow hown5 hN5 q0 q1 p0 p1 hW1
        go_wp2
        go_roundw
        case rel => exact ⟨b + 1, by omega, by go_num, by rw [HS.out]; exact OwnsF.snoc hown', hN'⟩
        case measure => simp [intOf]; omega
    · obtain rfl : b = T := by omega
      have ho := Lib.hid hown
      clear hown
      go_wp2_with (go_at_call 233; refine (l01All_top h0 h4 hA _).mono ?_; rintro e w' ⟨rfl, rfl⟩)
      go_ret2
      exact ⟨_, rfl, ho.out, hN⟩

/-- .. those handed out so far. -/
def shfF {T : Nat} (n : Int) (R : Nat) (pre : List (Row T)) : List (Int × Int) := (pre.filter fun x => noneTo n.toNat x.1 R 5).map fun x => (n, (x.1 : Int))
theorem shfF_yes {T : Nat} (n : Int) (R : Nat) (pre : List (Row T)) (x : Row T) (h : noneTo n.toNat x.1 R 5 = true) : shfF n R (pre ++ [x]) = shfF n R pre ++ [(n, (x.1 : Int))] := by simp [shfF, h]
theorem shfF_no {T : Nat} (n : Int) (R : Nat) (pre : List (Row T)) (x : Row T) (h : noneTo n.toNat x.1 R 5 = false) : shfF n R (pre ++ [x]) = shfF n R pre := by simp [shfF, h]
theorem shfF_len {T : Nat} (n : Int) (R : Nat) (pre : List (Row T)) : (shfF n R pre).length ≤ pre.length := by
  unfold shfF
  rw [List.length_map]
  exact List.length_filter_le _ _
theorem shfF_upto {T : Nat} (hT : 0 < T) (n : Int) (R k : Nat) (hk : k ≤ T) : shfF n R (upto hT k) = shfL n R k := by
  induction k with
  | zero => rfl
  | succ k ih =>
    have hv := rowAt_val hT (k := k) (by omega)
    cases h : noneTo n.toNat k R 5
    · rw [upto_succ, shfF_no _ _ _ _ (by rw [hv]; exact h), ih (by omega), shfL_no _ _ _ h]
    · rw [upto_succ, shfF_yes _ _ _ _ (by rw [hv]; exact h), ih (by omega), shfL_yes _ _ _ h, hv]

theorem owns_below' {W W' : World} {base : Nat} {e : TypeId} {size : Nat} {v : Value} {n : Nat} {xs : List Value} (h : W.ownsRow base e size v n xs) (hb : Below W.heap.size W W') : W'.ownsRow base e size v n xs := by
  obtain ⟨h1, h2 | ⟨g, cap, cur, e1, e2, e3, r⟩⟩ := h
  · exact ⟨h1, .inl h2⟩
  · exact ⟨h1, .inr ⟨g, cap, cur, e1, e2, (hb.block g (Array.getElem?_eq_some_iff.1 e3).1).trans e3, r⟩⟩

set_option maxRecDepth 100000 in
set_option maxHeartbeats 4000000 in
theorem implShefferFunctions_yes (n : Int) (h0 : 0 ≤ n) (h3 : n ≤ 3) {R T : Nat} (r0 : 0 < R) (r16 : R ≤ 16) (hR : Hid (rowsN n = (R : Int))) (hT : Hid (T = 2 ^ R)) (hT0 : 0 < T) (hT16 : T ≤ 65536) (ok : ∀ x, x < T → FOk n x R) (w : World) :
    Calls Try.prog 119 #[.int .i64 n] w (FListCodePost w.heap.size (shfL n R T) 0 w) := by
  obtain ⟨i0, hi, hz0, hz1, hz2⟩ := info_parts infoF
  have h4 : n ≤ 4 := by omega
  have HOK := Lib.hid ok
  clear ok
  have hd1 : decide (n < 0) = false := by simp; omega
  have hd2 : decide (3 < n) = false := by simp; omega
  refine (callsIn_wide (n := 3)).1 ?_
  refine callsIn_of_wp_marks Try.func119 rfl trivial ?_ rfl
  simp only [Try.ntmps119, List.size_toArray, List.length_cons, List.length_nil, Nat.reduceAdd, Nat.reduceSub, Array.replicate_succ, Array.replicate_zero, List.push_toArray, List.append_toArray, List.nil_append, List.cons_append]
  gi_wp2_with (refine ⟨trivial, ?_⟩; gi_at_call 236; refine (callsIn_wide.2 (funcsOfArity_any _ _)).mono ?_; rintro e w' ⟨rfl, rfl⟩)
  obtain ⟨W0, hW0⟩ : ∃ W0, (w.alloc (.cells #[.slice none 0 0] 52)).alloc (.cells #[.int .i64 n] 2) = W0 := ⟨_, rfl⟩
  have hbx : Boxed W0 w.heap.size 52 (.slice none 0 0) := by rw [← hW0]; exact (Boxed.new _ _ _).alloc _
  have cM : W0.cell? ⟨w.heap.size + 1, 0, none⟩ = some (.int .i64 n) := by rw [← hW0]; simp [go_sem]
  have hbm : Boxed W0 (w.heap.size + 1) 2 (.int .i64 n) := by rw [← hW0, show w.heap.size + 1 = (w.alloc (.cells #[.slice none 0 0] 52)).heap.size by simp]; exact Boxed.new _ _ _
  have hsz : W0.heap.size = w.heap.size + 2 := by rw [← hW0]; simp [go_sem]
  have hB0 : Below w.heap.size w W0 := by rw [← hW0]; exact balloc (bnew _ _) _
  rw [hW0]
  clear hW0 hd1 hd2
  refine wpIn_rangeFunc_ownH (α := Row T) rfl (by omega) (gf := 264) (lb := #[.pointer (some ⟨w.heap.size + 1, 0, none⟩)]) rfl trivial (enters_of Try.func264 (by kernel_rfl) rfl)
    (funcs_stops (3 - 1) (by omega) (w.heap.size + 1) w.heap.size n R T h0 h4 r0 r16 hR hT.out hT0 hT16 W0 cM) stays_t (stays_b (by omega)) (Below.refl _ _) (fun _ => rfl)
    (fun pre W => (∃ v, Boxed W w.heap.size 52 v ∧ W.ownsRow w.heap.size 25 2 v (shfF n R pre).length (fcells (shfF n R pre)) ∧ True) ∧ (Boxed W (w.heap.size + 1) 2 (.int .i64 n) ∧ Below w.heap.size w W))
    (fun _ _ _ => False)
    (OwnFrom.and (Own.from (holdsRow_own w.heap.size w.heap.size 52 25 2 (fun pre => (shfF n R pre).length) (fun pre => fcells (shfF n R pre)) (fun _ _ => True)) _) (OwnFrom.and ((boxed_own (w.heap.size + 1) 2 (fun _ => .int .i64 n)).from _) (ownFrom_below (Nat.le_refl _) (by omega))))
    (fun _ _ _ _ _ hs _ _ => hs)
    ⟨⟨_, hbx, World.ownsRow_nil _ _ _ _, trivial⟩, hbm, hB0⟩
    (fun x a' W => ∃ BX, a' = { tmps := #[.int .i64 n, undef, .slice none 0 0, .int .i64 0, .pointer (some ⟨w.heap.size, 0, none⟩), .pointer (some ⟨BX, 0, none⟩), .int .i64 n, .bool false, .bool false, .int .i64 n, .bool false, .bool false, .int .i64 n,
      .func (.func 264) #[] #[.pointer (some ⟨w.heap.size + 1, 0, none⟩)], .agg #[.int .i64 n, .int .i64 (x.1 : Int)], undef, undef, undef, undef, undef, undef, undef], defers := [] } ∧ FBox BX n x.1 W)
    (fun x a' _ A B row ⟨BX, e, hb⟩ hg hr => ⟨BX, e, ⟨cell_kept hb.c0 hg (fun r er => (hr r er).2), cell_kept hb.c1 hg (fun r er => (hr r er).2)⟩⟩)
    ?assign ?body ?done ?stop
  case assign =>
    rintro l pre x W K ⟨⟨v, hv, hrow, _⟩, hbm', hB⟩ hK
    unfold encFunc
    gi_wp2
    refine hK _ _ ((KeepsOthers.alloc W _).from _) (stays_below (by have := hB.size; omega) (bnew _ _)) ⟨⟨v, hv.alloc _, hrow.alloc _, trivial⟩, hbm'.alloc _, balloc hB _⟩ ⟨W.heap.size, rfl, ⟨by simp [go_sem], by simp [go_sem]⟩⟩
  case body =>
    clear cM hbx hbm
    rintro l pre x _ W hl hrec ⟨⟨v, hv, hrow, _⟩, hbm, hB⟩ ⟨BX, rfl, hbx⟩ hlen
    have c0 := hbx.c0
    have c1 := hbx.c1
    clear hbx hrec
    have hx := x.2
    have hle := shfF_len n R pre
    have HS := Lib.hid (isSheffer_any (HOK.out x.1 hx))
    have HM := Lib.hid hbm
    clear hbm
    cases hp : noneTo n.toNat x.1 R 5
    · rw [hp] at HS
      have HC := Lib.hid (shfF_no n R pre x hp)
      clear hp
      have HV := Lib.hid hv
      have HR := Lib.hid hrow
      clear hv hrow
      generalize x.1 = r at hx HS c1 ⊢
      gi_wp2_with (refine ⟨trivial, ?_⟩; refine (callsIn_wide.2 (HS.out _)).mono ?_; rintro e w' ⟨rfl, hb'⟩)
      refine ⟨(kotb hb').from _, stays_below (by have := hB.size; omega) hb', ⟨v, ?_, ?_, trivial⟩, (hb'.block _ HM.out.lt).trans HM.out, bthen hB hb'⟩
      · exact (hb'.block w.heap.size HV.out.lt).trans HV.out
      · rw [HC.out]; exact OwnsF.below HR.out hb'
    · rw [hp] at HS
      have HC := Lib.hid (shfF_yes n R pre x hp)
      clear hp
      have HV := Lib.hid hv
      have HR := Lib.hid hrow
      clear hv hrow
      generalize x.1 = r at hx HS c1 HC ⊢
      generalize hlk : (shfF n R pre).length = k at hle HR
      have HLK := Lib.hid hlk
      clear hlk
      gi_wp2_with (first
        | (refine ⟨trivial, ?_⟩; refine (callsIn_wide.2 (HS.out _)).mono ?_; rintro e w' ⟨rfl, hb'⟩; have d0 := kc hb' c0; have d1 := kc hb' c1; have hv5 : Boxed w' w.heap.size 52 v := (hb'.block w.heap.size HV.out.lt).trans HV.out; have HV5 := Lib.hid hv5; have dv := hv5.cell; clear hv5; have hrow5 : World.ownsRow _ _ _ _ _ _ _ := owns_below' HR.out hb'; have hm5 : Boxed w' (w.heap.size + 1) 2 (.int .i64 n) := (hb'.block _ HM.out.lt).trans HM.out; have HM5 := Lib.hid hm5; clear hm5; have hB5 := bthen hB hb'; have hs5 := hB5.size)
        | (gi_at_builtin; refine wpListIn_append_own _ rfl _ _ 52 rfl w.heap.size 25 i0 (.agg #[.int .i64 0, .int .i64 0]) 2 16 Try.underlying52 hi hz0 hz1 hz2 rfl (by decide) _ _ _ rfl (hrow5.alloc _) ⟨w'.heap.size, 0, none⟩ 1 1 [.int .i64 n, .int .i64 (r : Int)] rfl rfl (cell_two_new _ _ _ _) (one_cell_two _ _) (by unfold maxLen; omega) (by omega) (by simp; omega) ?_; intro v' w1 hown' hgrow _; have HAP := Lib.hid (Boxed.appended HV5.out (by decide) hrow5 hs5 (Nat.le_refl _) hown' hgrow); obtain ⟨g5, cap5, rfl⟩ := ownsRow_succ hown'; have HM1 := Lib.hid ((HM5.out.alloc _).kept hgrow (HM5.out.not_row (by decide) hrow5)); have e5 := HAP.out.1.cell; have z5 := HAP.out.1.frozen; clear hgrow))
      obtain ⟨a1, a2, a3, a4, a5⟩ := HAP.out
      have hm6 := HM1.out.other (B' := w.heap.size) (by omega) (.slice (some ⟨g5, 0, none⟩) (k + 1) cap5)
      refine ⟨((kotb hb').trans a4).from _, ⟨(hb'.mono (by have := hB.size; omega)).trans a5, fun u hu => ?_⟩, ⟨_, a2, ?_, trivial⟩, hm6, hB5.trans a5⟩
      · rw [HM.out.cell] at hu
        cases hu
        exact hm6.cell
      · rw [HC.out, fcells_snoc, List.length_append, HLK.out]
        exact a3
  case done =>
    clear cM hbx hbm
    rintro D ys W hD rfl ⟨⟨v, hv, hrow, _⟩, _, hB⟩ hK
    rw [shfF_upto hT0 n R T (Nat.le_refl _)] at hrow
    have dv := hv.cell
    have HR := Lib.hid hrow
    clear hrow hv
    gi_wp2
    refine ⟨by simp, .inl ⟨_, _, rfl, run_takeDeferred hK, ?_⟩⟩
    refine ⟨.tuple #[v, .int .i64 0], by simp [results, Try.results119, go_sem], v, rfl, ?_, hB.trans (belowK_b (w := w) (Nat.le_refl _) W D _ _ (by omega) hK rfl rfl)⟩
    exact ownsRow_putObj HR.out _ hK rfl
  case stop =>
    rintro D c pre W _ _ h _
    exact h.elim

set_option maxRecDepth 100000 in
set_option maxHeartbeats 1000000 in
theorem implShefferFunctions_no (n : Int) (h : n < 0 ∨ 3 < n) (w : World) :
    Calls Try.prog 119 #[.int .i64 n] w (FListCodePost w.heap.size [] 2 w) := by
  rcases h with h | h
  · have hd1 : decide (n < 0) = true := by simpa using h
    go_enter Try.func119, Try.ntmps119
    go_wp2
    go_ret2
    exact ⟨_, rfl, OwnsF.nil _ _, Below.refl _ _⟩
  · have hd1 : decide (n < 0) = false := by simp; omega
    have hd2 : decide (3 < n) = true := by simpa using h
    go_enter Try.func119, Try.ntmps119
    go_wp2
    go_ret2
    exact ⟨_, rfl, OwnsF.nil _ _, Below.refl _ _⟩

set_option maxRecDepth 100000 in
set_option maxHeartbeats 1000000 in
theorem specShefferFunctions_no (n : Int) (h : inB n 0 3 = false) (w : World) :
    Calls Try.prog 120 #[.int .i64 n] w (FListCodePost w.heap.size [] 2 w) := by
  go_enter Try.func120, Try.ntmps120
  go_wp2_with (go_at_call 154; refine (l01In_is h _).mono ?_; rintro e w' ⟨rfl, rfl⟩)
  go_ret2
  exact ⟨_, rfl, OwnsF.nil _ _, Below.refl _ _⟩

theorem bothShefferFunctions (n : Int) (_ : (Lit.int .i64 n).wf = true) : ∃ (xs : List (Int × Int)) (rc : Int), xs.length ≤ 100000 ∧
    (∀ w, Calls Try.prog 120 #[.int .i64 n] w (FListCodePost w.heap.size xs rc w)) ∧
    (∀ w, Calls Try.prog 119 #[.int .i64 n] w (FListCodePost w.heap.size xs rc w)) := by
  cases h : inB n 0 3
  · have hn : n < 0 ∨ 3 < n := by
      have : ¬ (0 ≤ n ∧ n ≤ 3) := by simpa [inB] using h
      omega
    exact ⟨_, _, by simp, specShefferFunctions_no n h, implShefferFunctions_no n hn⟩
  · have hn2 : 0 ≤ n ∧ n ≤ 3 := by simpa [inB] using h
    obtain ⟨R, T, r0, r16, hR, hT, hT0, hT16, hA, ok⟩ := arity_nums (n := n) hn2.1 (by omega)
    exact ⟨_, _, by have := shfL_len n R T; omega, specShefferFunctions_yes n h hn2.1 (by omega) hT0 hT16 hA ok, implShefferFunctions_yes n hn2.1 hn2.2 r0 r16 hR hT hT0 hT16 ok⟩
end Go.Proofs.Ytenbokdcdokhiab

/- KM:
  The mathematics of FnClasses: the classes of duals, rows that tell membership, Sheffer functions counted. -/
namespace Go.Proofs.Ytenbokdcdokhiab
open Go.RowKit
set_option linter.unusedVariables false
set_option linter.unusedSimpArgs false

def dualN (x R : Nat) : Nat := sumN (fun r => 1 - bitN x (R - 1 - r)) R
theorem bitN_dual {x R i : Nat} (hi : i < R) : bitN (dualN x R) i = 1 - bitN x (R - 1 - i) :=
  bitN_sum (fun r => 1 - bitN x (R - 1 - r)) R (fun r _ => by omega) i hi
theorem dualN_lt (x R : Nat) : dualN x R < 2 ^ R := sumN_lt _ _ (fun r _ => by omega)
theorem dualN_dual {x R : Nat} (hx : x < 2 ^ R) : dualN (dualN x R) R = x := by
  unfold dualN
  rw [sumN_congr R (u := bitN x) fun r hr => ?_, sumN_bits, Nat.mod_eq_of_lt hx]
  show 1 - bitN (dualN x R) (R - 1 - r) = bitN x r
  rw [bitN_dual (by omega)]
  have := bitN_le x r
  have e : R - 1 - (R - 1 - r) = r := by omega
  rw [e]
  omega
theorem bit01 (x i : Nat) : bitN x i = 0 ∨ bitN x i = 1 := by have := bitN_le x i; omega

theorem cls0_dual {x R : Nat} (r0 : 0 < R) : cls0 (dualN x R) = cls1 x R := by
  unfold cls0 cls1
  rw [bitN_dual r0, Nat.sub_zero]
  rcases bit01 x (R - 1) with h | h <;> simp [h]
theorem cls1_dual {x R : Nat} (r0 : 0 < R) : cls1 (dualN x R) R = cls0 x := by
  unfold cls0 cls1
  rw [bitN_dual (by omega), Nat.sub_self]
  rcases bit01 x 0 with h | h <;> simp [h]
theorem allLt_congr {k : Nat} {p q : Nat → Bool} (h : ∀ r, r < k → p r = q r) : allLt k p = allLt k q := by
  induction k with
  | zero => rfl
  | succ k ih => rw [allLt_succ, allLt_succ, ih (fun r hr => h r (by omega)), h k (by omega)]
theorem cls2_dual {x R : Nat} : cls2 (dualN x R) R = cls2 x R := by
  unfold cls2
  refine allLt_congr fun i hi => ?_
  rw [bitN_dual hi, bitN_dual (by omega)]
  have e : R - 1 - (R - 1 - i) = i := by omega
  rw [e]
  rcases bit01 x i with h | h <;> rcases bit01 x (R - 1 - i) with h2 | h2 <;> simp [h, h2]

theorem dual_rows : ∀ n < 5, ∀ i < 2 ^ n, ∀ v < n, bitN i v = 1 ∨ (2 ^ n - 1 - (i ||| 2 ^ v) < 2 ^ n ∧ bitN (2 ^ n - 1 - (i ||| 2 ^ v)) v = 0 ∧ (2 ^ n - 1 - (i ||| 2 ^ v)) ||| 2 ^ v = 2 ^ n - 1 - i ∧ i ||| 2 ^ v < 2 ^ n) := by decide +kernel
theorem dual_turn : ∀ n < 5, ∀ i < 2 ^ n, ∀ v < n, i ^^^ 2 ^ v < 2 ^ n ∧ 2 ^ n - 1 - (i ^^^ 2 ^ v) = (2 ^ n - 1 - i) ^^^ 2 ^ v ∧ 0 ^^^ 2 ^ v = 2 ^ v ∧ 2 ^ v < 2 ^ n := by decide +kernel

theorem cls3_half {n x : Nat} (hn : n < 5) (h : cls3 n x (2 ^ n) = true) : cls3 n (dualN x (2 ^ n)) (2 ^ n) = true := by
  unfold cls3 at h ⊢
  rw [allLt_iff] at h ⊢
  intro i hi
  rw [allLt_iff]
  intro v hv
  rcases bit01 i v with h0 | h1
  · obtain ⟨a, b, c, d⟩ := (dual_rows n hn i hi v hv).resolve_left (by omega)
    have k := allLt_iff.1 (h _ a) v hv
    unfold up1 at k ⊢
    rw [b, c] at k
    rw [bitN_dual hi, bitN_dual d, h0]
    rcases bit01 x (2 ^ n - 1 - i) with q | q <;> rcases bit01 x (2 ^ n - 1 - (i ||| 2 ^ v)) with q2 | q2 <;> simp [q, q2] at k ⊢
  · simp [up1, h1]
theorem cls3_dual {n x : Nat} (hn : n < 5) (hx : x < 2 ^ 2 ^ n) : cls3 n (dualN x (2 ^ n)) (2 ^ n) = cls3 n x (2 ^ n) := by
  cases h : cls3 n x (2 ^ n)
  · cases h2 : cls3 n (dualN x (2 ^ n)) (2 ^ n)
    · rfl
    · have := cls3_half hn h2
      rw [dualN_dual hx, h] at this
      cases this
  · exact cls3_half hn h

theorem dif_dual {n x i v : Nat} (hn : n < 5) (hi : i < 2 ^ n) (hv : v < n) : (bitN (dualN x (2 ^ n)) i != bitN (dualN x (2 ^ n)) (i ^^^ 2 ^ v)) = (bitN x (2 ^ n - 1 - i) != bitN x ((2 ^ n - 1 - i) ^^^ 2 ^ v)) := by
  obtain ⟨a, b, _, _⟩ := dual_turn n hn i hi v hv
  rw [bitN_dual hi, bitN_dual a, b]
  rcases bit01 x (2 ^ n - 1 - i) with q | q <;> rcases bit01 x ((2 ^ n - 1 - i) ^^^ 2 ^ v) with q2 | q2 <;> simp [q, q2]
theorem cls4_half {n x : Nat} (hn : n < 5) (h : cls4 n x (2 ^ n) = true) : cls4 n (dualN x (2 ^ n)) (2 ^ n) = true := by
  unfold cls4 at h ⊢
  rw [allLt_iff] at h ⊢
  intro v hv
  rw [allLt_iff]
  intro i hi
  have hp : 0 < 2 ^ n := Nat.two_pow_pos n
  have k1 := allLt_iff.1 (h v hv) (2 ^ n - 1 - i) (by omega)
  have k0 := allLt_iff.1 (h v hv) (2 ^ n - 1 - 0) (by omega)
  have d1 := dif_dual (x := x) hn hi hv
  have d0 := dif_dual (x := x) hn hp hv
  rw [(dual_turn n hn 0 hp v hv).2.2.1] at d0
  unfold alt1 at k1 k0 ⊢
  rw [d1, d0]
  simp only [beq_iff_eq] at k1 k0 ⊢
  rw [k1, k0]
theorem cls4_dual {n x : Nat} (hn : n < 5) (hx : x < 2 ^ 2 ^ n) : cls4 n (dualN x (2 ^ n)) (2 ^ n) = cls4 n x (2 ^ n) := by
  cases h : cls4 n x (2 ^ n)
  · cases h2 : cls4 n (dualN x (2 ^ n)) (2 ^ n)
    · rfl
    · have := cls4_half hn h2
      rw [dualN_dual hx, h] at this
      cases this
  · exact cls4_half hn h

/-- The classes of a dual. -/
theorem cls_dual {n : Int} {x R : Nat} (ok : FOk n x R) :
    cls0 (dualN x R) = cls1 x R ∧ cls1 (dualN x R) R = cls0 x ∧ cls2 (dualN x R) R = cls2 x R ∧ cls3 n.toNat (dualN x R) R = cls3 n.toNat x R ∧ cls4 n.toNat (dualN x R) R = cls4 n.toNat x R := by
  have h4 := ok.h4
  have h0 := ok.h0
  have hB := ok.hB
  have hn : n.toNat < 5 := by omega
  obtain rfl := ok.he
  exact ⟨cls0_dual ok.r0, cls1_dual ok.r0, cls2_dual, cls3_dual hn hB, cls4_dual hn hB⟩
theorem shfL_cnt (n : Int) (R k : Nat) : (shfL n R k).length = cntTo (fun x => noneTo n.toNat x R 5) k := by
  unfold shfL cntTo
  rw [List.length_map, List.countP_eq_length_filter]
end Go.Proofs.Ytenbokdcdokhiab

/- U1:
  Digits as texts. -/
namespace Go.Proofs.Ytenbokdcdokhiab
open Go.RowKit
set_option linter.unusedVariables false

/-- The byte of a digit. -/
def dgB (d : Nat) : UInt8 := UInt8.ofNat (48 + d)

theorem dgB_nat (d : Nat) (hd : d < 200) : (dgB d).toNat = 48 + d := by
  unfold dgB
  rw [UInt8.toNat_ofNat']
  exact Nat.mod_eq_of_lt (by omega)

set_option maxRecDepth 100000 in
set_option maxHeartbeats 2000000 in
theorem l01Dec_any (d : Nat) (hd : d < 10) (w : World) :
    Calls Try.prog 260 #[.int .i64 (d : Int)] w fun e w' => e = .returned (.string ⟨#[dgB d]⟩) ∧ Below w.heap.size w w' := by
  have hcv := run_convert_bytes_back (P := Try.prog) (w.alloc (.cells #[.int .u8 (48 + (d : Int))] 5)) 22 9 5 ⟨w.heap.size, 0, none⟩ 1 [dgB d] Try.underlying22 Try.underlying5 Try.underlying9 (fun j hj => by
    obtain rfl : j = 0 := by simpa using hj
    have := dgB_nat d (by omega)
    simp [go_sem, Addr.add, this])
  simp only [List.length_cons, List.length_nil, Nat.zero_add] at hcv
  go_enter Try.func260, Try.ntmps260
  go_wp2_with fail
  go_ret
  exact ⟨rfl, bnew _ _⟩
end Go.Proofs.Ytenbokdcdokhiab

/- U2:
  The texts of functions in the model. -/
namespace Go.Proofs.Ytenbokdcdokhiab
open Go.RowKit
set_option linter.unusedVariables false

/-- The bytes of a text, with the values of the first k rows. -/
def txtL (n x k : Nat) : List UInt8 := dgB n :: 58 :: (List.range k).map fun r => dgB (bitN x r)
theorem txtL_succ (n x k : Nat) : txtL n x (k + 1) = txtL n x k ++ [dgB (bitN x k)] := by simp [txtL, List.range_succ]
theorem txtL_len (n x k : Nat) : (txtL n x k).length = k + 2 := by simp [txtL]
def txtS (n x k : Nat) : ByteArray := ⟨(txtL n x k).toArray⟩
theorem txtS_size (n x k : Nat) : (txtS n x k).size = k + 2 := by show ((txtL n x k).toArray).size = _; rw [List.size_toArray, txtL_len]
theorem txtS_zero (n x : Nat) : ((⟨#[dgB n]⟩ : ByteArray) ++ ⟨#[58]⟩) = txtS n x 0 := by rw [ByteArray.mk_append_mk]; rfl
theorem txtS_app (n x k : Nat) : (txtS n x k ++ (⟨#[dgB (bitN x k)]⟩ : ByteArray)) = txtS n x (k + 1) := by unfold txtS; rw [ByteArray.mk_append_mk, txtL_succ]
theorem txtS_succ (n x k : Nat) : (⟨(txtS n x k).data ++ #[dgB (bitN x k)]⟩ : ByteArray) = txtS n x (k + 1) := by
  unfold txtS
  rw [txtL_succ]
  simp

set_option maxRecDepth 100000 in
set_option maxHeartbeats 2000000 in
theorem l01Text_any {n : Int} {x R : Nat} (ok : FOk n x R) (w : World) :
    Calls Try.prog 196 #[.agg #[.int .i64 n, .int .i64 (x : Int)]] w fun e w' => e = .returned (.string (txtS n.toNat x R)) ∧ Below w.heap.size w w' := by
  have h0 := ok.h0
  have h4 := ok.h4
  have r16 := ok.r16
  obtain ⟨m, rfl⟩ := Int.eq_ofNat_of_zero_le h0
  simp only [Int.toNat_natCast]
  obtain ⟨W1, hW1⟩ : ∃ W1, w.alloc (.cells #[.int .i64 (m : Int), .int .i64 (x : Int)] 25) = W1 := ⟨_, rfl⟩
  have p0 : W1.cell? ⟨w.heap.size, 0, none⟩ = some (.int .i64 (m : Int)) := by rw [← hW1]; simp [go_sem]
  have p1 : W1.cell? ⟨w.heap.size, 1, none⟩ = some (.int .i64 (x : Int)) := by rw [← hW1]; simp [go_sem]
  have hB : Below w.heap.size w W1 := by rw [← hW1]; exact bnew _ _
  go_enter Try.func196, Try.ntmps196
  go_wp2_with fail
  clear hW1
  refine (l01Dec_any m (by omega) _).mono ?_
  rintro e w2 ⟨rfl, hb2⟩
  have q0 := kc hb2 p0
  have q1 := kc hb2 p1
  have hB2 := bthen hB hb2
  go_wp2_with fail
  rw [txtS_zero m x]
  have hr := ok.hR
  go_loopw [3, 4] (fun a b' wr => ∃ b : Nat, b ≤ R ∧ b' = .int .i64 b ∧ a = .string (txtS m x b) ∧ wr.cell? ⟨w.heap.size, 0, none⟩ = some (.int .i64 (m : Int)) ∧ wr.cell? ⟨w.heap.size, 1, none⟩ = some (.int .i64 (x : Int)) ∧ Below w.heap.size w wr)
    (fun _ b' _ => R - (intOf b').toNat)
  case atStart => exact ⟨0, by omega, rfl, rfl, q0, q1, hB2⟩
  case round =>
    obtain ⟨b, hb, rfl, rfl, c0, c1, hN⟩ := hrel
    by_cases hlt : b < R
    · have hd := bitN_le x b
      have hz := txtS_size m x b
      have hlen : ¬ ((txtS m x b).size + 1 > 9223372036854775807) := by omega
      go_wp2_with (first
        | (go_at_call 148; refine (l01Rows_is h0 h4 hr _).mono ?_; rintro e w' ⟨rfl, rfl⟩)
        | (go_at_call 155; refine (l01At_any _ x b ok.hx (by omega) _).mono ?_; rintro e w4 ⟨rfl, hb4⟩; have e0 := kc hb4 c0; have e1 := kc hb4 c1)
        | (go_at_call 260; refine (l01Dec_any (bitN x b) (by omega) _).mono ?_; rintro e w3 ⟨rfl, hb3⟩; have d0 := kc hb3 e0; have d1 := kc hb3 e1))
      rw [txtS_app m x b]
      go_roundw
      case rel => exact ⟨b + 1, by omega, by go_num, rfl, d0, d1, bthen (bthen hN hb4) hb3⟩
      case measure => simp [intOf]; omega
    · obtain rfl : b = R := by omega
      go_wp2_with (first
        | (go_at_call 148; refine (l01Rows_is h0 h4 hr _).mono ?_; rintro e w' ⟨rfl, rfl⟩))
      go_ret
      exact ⟨rfl, hN⟩
end Go.Proofs.Ytenbokdcdokhiab

/- FM:
  The mathematics of FnFunctions: negations, widened functions, cores, texts. -/
namespace Go.Proofs.Ytenbokdcdokhiab
open Go.RowKit
set_option linter.unusedVariables false
set_option linter.unusedSimpArgs false

/-- The negation's bits. -/
def negN (x R : Nat) : Nat := sumN (fun r => 1 - bitN x r) R
theorem negN_lt (x R : Nat) : negN x R < 2 ^ R := sumN_lt _ _ (fun r _ => by omega)
theorem negN_bit (x R r : Nat) (h : r < R) : bitN (negN x R) r = 1 - bitN x r := bitN_sum (fun r => 1 - bitN x r) R (fun r _ => by omega) r h
theorem negN_neg {x R : Nat} (hx : x < 2 ^ R) : negN (negN x R) R = x := by
  have e : negN (negN x R) R = sumN (bitN x) R := sumN_congr R fun r hr => by
    rw [negN_bit x R r hr]
    have := bitN_le x r
    omega
  rw [e, sumN_bits, Nat.mod_eq_of_lt hx]
theorem neg_weight (x R : Nat) : ones x R + ones (negN x R) R = R := by
  have key : ∀ k, k ≤ R → ones x k + ones (negN x R) k = k := by
    intro k
    induction k with
    | zero => intro _; rfl
    | succ k ih =>
      intro hk
      have h1 := ih (by omega)
      have h2 := negN_bit x R k (by omega)
      have h3 := bitN_le x k
      simp only [ones]
      omega
  exact key R (Nat.le_refl _)

/-- A function widened and fixed. -/
theorem ins_top : ∀ m < 4, ∀ v < 2, ∀ r < 2 ^ m, insN m v r = v * 2 ^ m + r := by decide +kernel
theorem bit_low (x k R r : Nat) (h : r < R) : bitN (x + k * 2 ^ R) r = bitN x r := by
  unfold bitN
  obtain ⟨d, rfl⟩ : ∃ d, R = r + (d + 1) := ⟨R - r - 1, by omega⟩
  rw [Nat.pow_add, Nat.mul_left_comm, Nat.add_mul_div_left _ _ (Nat.two_pow_pos r), Nat.pow_succ, ← Nat.mul_assoc, Nat.add_mul_mod_self_right]
theorem bit_high (x k R r : Nat) (hx : x < 2 ^ R) : bitN (x + k * 2 ^ R) (R + r) = bitN k r := by
  unfold bitN
  rw [Nat.pow_add, ← Nat.div_div_eq_div_mul, Nat.add_mul_div_right _ _ (Nat.two_pow_pos R), Nat.div_eq_of_lt hx, Nat.zero_add]
theorem widen_fix {m x R v : Nat} (hm : m < 4) (hR : R = 2 ^ m) (hx : x < 2 ^ R) (hv : v < 2) : fixN ((m + 1 : Nat) : Int) (x + x * 2 ^ R) m v = x := by
  unfold fixN
  rw [Int.toNat_natCast, show m + 1 - 1 = m by omega, ← hR]
  have e : sumN (fun r => bitN (x + x * 2 ^ R) (insN m v r)) R = sumN (bitN x) R := sumN_congr R fun r hr => by
    rw [ins_top m hm v hv r (by rw [← hR]; exact hr), ← hR]
    rcases (show v = 0 ∨ v = 1 by omega) with rfl | rfl
    · rw [Nat.zero_mul, Nat.zero_add]; exact bit_low x x R r hr
    · rw [Nat.one_mul]; exact bit_high x x R r hx
  rw [e, sumN_bits, Nat.mod_eq_of_lt hx]

/-- Is the variable j essential? -/
def essB (m x j : Nat) : Bool := fixN (m : Int) x j 0 != fixN (m : Int) x j 1
theorem sumN_inj {v u : Nat → Nat} {k : Nat} (hv : ∀ r, v r ≤ 1) (hu : ∀ r, u r ≤ 1) : sumN v k = sumN u k ↔ ∀ r, r < k → v r = u r := by
  constructor
  · intro h r hr
    have h1 := bitN_sum v k (fun r _ => hv r) r hr
    have h2 := bitN_sum u k (fun r _ => hu r) r hr
    rw [h] at h1
    omega
  · exact sumN_congr k
theorem essB_false {m x j : Nat} : essB m x j = false ↔ ∀ r, r < 2 ^ (m - 1) → bitN x (insN j 0 r) = bitN x (insN j 1 r) := by
  unfold essB fixN
  rw [Int.toNat_natCast, bne_eq_false_iff_eq]
  exact sumN_inj (fun r => bitN_le _ _) (fun r => bitN_le _ _)
theorem ins_two : ∀ m < 5, ∀ i < m, ∀ j < m - 1, ∀ u < 2, ∀ v < 2, ∀ r < 2 ^ (m - 2), insN i u (insN j v r) = insN (if j < i then j else j + 1) v (insN (if j < i then i - 1 else i) u r) := by decide +kernel
theorem ins_all : ∀ m < 5, ∀ i < m - 1, ∀ q < 2 ^ (m - 1), ∃ u < 2, ∃ r < 2 ^ (m - 2), q = insN i u r := by decide +kernel
theorem ins_in : ∀ m < 5, ∀ j < m - 1, ∀ v < 2, ∀ r < 2 ^ (m - 2), insN j v r < 2 ^ (m - 1) := by decide +kernel
/-- A variable that is not essential left out: the others are essential as before. -/
theorem ess_left {m x i : Nat} (hm : m < 5) (hi : i < m) (h : essB m x i = false) (j : Nat) (hj : j < m - 1) : essB (m - 1) (fixN (m : Int) x i 0) j = essB m x (if j < i then j else j + 1) := by
  have hg : ∀ q, q < 2 ^ (m - 1) → bitN (fixN (m : Int) x i 0) q = bitN x (insN i 0 q) := fun q hq => by
    unfold fixN
    rw [Int.toNat_natCast]
    exact bitN_sum (fun r => bitN x (insN i 0 r)) _ (fun r _ => bitN_le _ _) q hq
  have h0 := essB_false.1 h
  have e : essB (m - 1) (fixN (m : Int) x i 0) j = false ↔ essB m x (if j < i then j else j + 1) = false := by
    rw [essB_false, essB_false, show m - 1 - 1 = m - 2 by omega]
    constructor
    · intro hh q hq
      obtain ⟨u, hu, r, hr, rfl⟩ := ins_all m hm (if j < i then i - 1 else i) (by split <;> omega) q hq
      have a0 := ins_two m hm i hi j hj u hu 0 (by omega) r hr
      have a1 := ins_two m hm i hi j hj u hu 1 (by omega) r hr
      rw [← a0, ← a1]
      have b0 := ins_in m hm j hj 0 (by omega) r hr
      have b1 := ins_in m hm j hj 1 (by omega) r hr
      have c := hh r hr
      rw [hg _ b0, hg _ b1] at c
      rcases (show u = 0 ∨ u = 1 by omega) with rfl | rfl
      · exact c
      · rw [← h0 _ b0, ← h0 _ b1]; exact c
    · intro hh r hr
      have b0 := ins_in m hm j hj 0 (by omega) r hr
      have b1 := ins_in m hm j hj 1 (by omega) r hr
      rw [hg _ b0, hg _ b1, ins_two m hm i hi j hj 0 (by omega) 0 (by omega) r hr, ins_two m hm i hi j hj 0 (by omega) 1 (by omega) r hr]
      refine hh _ ?_
      exact ins_in m hm (if j < i then i - 1 else i) (by split <;> omega) 0 (by omega) r hr
  cases h1 : essB (m - 1) (fixN (m : Int) x i 0) j
  · rw [(e.1 h1)]
  · cases h2 : essB m x (if j < i then j else j + 1)
    · rw [e.2 h2] at h1; cases h1
    · rfl
/-- How many of the first numbers have a property. -/
def cntB (p : Nat → Bool) : Nat → Nat
  | 0 => 0
  | k + 1 => cntB p k + (p k).toNat
theorem cntB_congr {p q : Nat → Bool} (k : Nat) (h : ∀ j, j < k → p j = q j) : cntB p k = cntB q k := by
  induction k with
  | zero => rfl
  | succ k ih => simp only [cntB]; rw [ih (fun j hj => h j (by omega)), h k (by omega)]
theorem cntB_skip {p q : Nat → Bool} {i : Nat} (hi : p i = false) (h1 : ∀ j, j < i → q j = p j) (h2 : ∀ j, i ≤ j → q j = p (j + 1)) : ∀ m, i ≤ m → cntB p (m + 1) = cntB q m := by
  intro m
  induction m with
  | zero =>
    intro h
    obtain rfl : i = 0 := by omega
    simp [cntB, hi]
  | succ m ih =>
    intro h
    by_cases e : i = m + 1
    · subst e
      show cntB p (m + 1) + (p (m + 1)).toNat = _
      rw [hi]
      show cntB p (m + 1) + 0 = _
      rw [Nat.add_zero]
      exact (cntB_congr _ fun j hj => (h1 j hj).symm)
    · show cntB p (m + 1) + (p (m + 1)).toNat = cntB q m + (q m).toNat
      rw [ih (by omega), h2 m (by omega)]
theorem cntB_full {p : Nat → Bool} : ∀ m, (∀ j, j < m → p j = true) → cntB p m = m := by
  intro m
  induction m with
  | zero => intro _; rfl
  | succ m ih => intro h; simp only [cntB]; rw [ih (fun j hj => h j (by omega)), h m (by omega)]; rfl
theorem cntB_list (p : Nat → Bool) (m : Nat) : ((List.range m).filter p).length = cntB p m := by
  induction m with
  | zero => rfl
  | succ m ih =>
    rw [List.range_succ, List.filter_append, List.length_append, ih]
    simp only [cntB]
    cases h : p m <;> simp [h]
theorem essK_cnt (m x : Nat) : (essK (m : Int) x m).length = cntB (essB m x) m := by
  unfold essK
  rw [List.length_map]
  exact cntB_list _ m
/-- The core's variables are essential, and as many as were. -/
theorem core_ess : ∀ (k m x : Nat), k ≤ m → m < 5 → (∀ j, k ≤ j → j < m → essB m x j = true) →
    ∃ m' x' : Nat, coreR k ((m : Int), x) = ((m' : Int), x') ∧ m' ≤ m ∧ cntB (essB m' x') m' = m' ∧ cntB (essB m x) m = m' ∧ (x < 2 ^ 2 ^ m → x' < 2 ^ 2 ^ m') := by
  intro k
  induction k with
  | zero =>
    intro m x _ _ h
    have := cntB_full (p := essB m x) m (fun j hj => h j (Nat.zero_le _) hj)
    exact ⟨m, x, rfl, Nat.le_refl _, this, this, fun h => h⟩
  | succ k ih =>
    intro m x hk hm h
    cases hb : essB m x k
    · have e : fixN (m : Int) x k 0 = fixN (m : Int) x k 1 := by
        unfold essB at hb
        exact bne_eq_false_iff_eq.1 hb
      have es : stepC k ((m : Int), x) = (((m - 1 : Nat) : Int), fixN (m : Int) x k 0) := by
        unfold stepC
        rw [if_pos e]
        congr 1
        omega
      have L := ess_left hm (show k < m by omega) hb
      obtain ⟨m', x', e1, h1, h2, h3, h4⟩ := ih (m - 1) (fixN (m : Int) x k 0) (by omega) (by omega) (fun j hj1 hj2 => by
        rw [L j hj2, if_neg (by omega)]
        exact h (j + 1) (by omega) (by omega))
      refine ⟨m', x', by show coreR k (stepC k ((m : Int), x)) = _; rw [es]; exact e1, by omega, h2, ?_, fun _ => h4 ?_⟩
      · rw [← h3]
        have := cntB_skip (p := essB m x) (q := fun j => if j < k then essB m x j else essB m x (j + 1)) (i := k) hb (fun j hj => if_pos hj) (fun j hj => if_neg (by omega)) (m - 1) (by omega)
        rw [show m - 1 + 1 = m by omega] at this
        rw [this]
        refine cntB_congr _ fun j hj => ?_
        show (if j < k then essB m x j else essB m x (j + 1)) = _
        rw [L j hj]
        split <;> rfl
      · have := sumN_lt (fun r => bitN x (insN k 0 r)) (2 ^ (((m : Nat) : Int).toNat - 1)) (fun r _ => bitN_le _ _)
        rw [Int.toNat_natCast] at this
        exact this
    · have ne : ¬ fixN (m : Int) x k 0 = fixN (m : Int) x k 1 := by
        unfold essB at hb
        simpa using hb
      have es : stepC k ((m : Int), x) = ((m : Int), x) := by
        unfold stepC
        rw [if_neg ne]
      obtain ⟨m', x', e1, h1, h2, h3, h4⟩ := ih m x (by omega) hm (fun j hj1 hj2 => by
        by_cases e : j = k
        · subst e; exact hb
        · exact h j (by omega) hj2)
      exact ⟨m', x', by show coreR k (stepC k ((m : Int), x)) = _; rw [es]; exact e1, h1, h2, h3, h4⟩

/-- The text of a function leads back. -/
theorem bt_txt (n x R k : Nat) (hk : k < (txtL n x R).length) : bt (txtS n x R) k = ((txtL n x R)[k]).toNat := by
  have hs : k < (txtS n x R).size := by rw [txtS_size]; rw [txtL_len] at hk; exact hk
  unfold bt
  rw [dif_pos hs]
  rfl
theorem txt_back {m x R : Nat} (ok : FOk (m : Int) x R) : rdOk (txtS m x R) = true ∧ txN (txtS m x R) = (m : Int) ∧ rdB (txtS m x R) = (x : Int) := by
  have h4 := ok.h4
  have he := ok.he
  rw [Int.toNat_natCast] at he
  have hl := txtL_len m x R
  have hs := txtS_size m x R
  have r0 := ok.r0
  have b0 : bt (txtS m x R) 0 = 48 + m := by
    rw [bt_txt m x R 0 (by omega)]
    show (dgB m).toNat = _
    exact dgB_nat m (by omega)
  have b1 : bt (txtS m x R) 1 = 58 := by
    rw [bt_txt m x R 1 (by omega)]
    rfl
  have b2 : ∀ r, r < R → bt (txtS m x R) (r + 2) = 48 + bitN x r := by
    intro r hr
    rw [bt_txt m x R (r + 2) (by omega)]
    have e : (txtL m x R)[r + 2]'(by omega) = dgB (bitN x r) := by
      unfold txtL
      simp
    rw [e]
    exact dgB_nat _ (by have := bitN_le x r; omega)
  have eN : txN (txtS m x R) = (m : Int) := by unfold txN; rw [b0]; omega
  have eR : txR (txtS m x R) = R := by unfold txR; rw [eN, Int.toNat_natCast, he]
  have ex : ∀ r, r < R → (xsTo (txtS m x R) R)[r]?.getD 0 = (bitN x r : Int) := by
    intro r hr
    simp only [xsTo, List.getElem?_map, List.getElem?_range hr, Option.map_some, Option.getD_some]
    rw [b2 r hr]
    omega
  have hd : ((xsTo (txtS m x R) R).all fun v => inB v 0 1) = true := by
    rw [List.all_eq_true]
    intro v hv
    obtain ⟨r, hr, e⟩ := List.getElem_of_mem hv
    rw [xsTo_len] at hr
    have h1 := ex r hr
    rw [List.getElem?_eq_getElem (by rw [xsTo_len]; exact hr)] at h1
    simp only [Option.getD_some] at h1
    rw [e] at h1
    have := bitN_le x r
    exact inB_true (by omega) (by omega)
  refine ⟨?_, eN, ?_⟩
  · unfold rdOk
    rw [eN, eR, hd, b1, hs]
    simp [inB_true (show (0 : Int) ≤ (m : Int) by omega) h4]
    omega
  · unfold rdB
    rw [eR]
    have : sumN (dig (xsTo (txtS m x R) R)) R = sumN (bitN x) R := sumN_congr R fun r hr => by
      unfold dig
      rw [ex r hr, Int.toNat_natCast]
    rw [this, sumN_bits, Nat.mod_eq_of_lt ok.hB]
end Go.Proofs.Ytenbokdcdokhiab

/- TB:
  The contracts of ParseFunc for greater texts. -/
namespace Go.Proofs.Ytenbokdcdokhiab
open Go.RowKit
set_option linter.unusedVariables false
set_option linter.unusedSimpArgs false

set_option maxRecDepth 100000 in
set_option maxHeartbeats 2000000 in
theorem l01Read_shortB (s : ByteArray) (hs : s.size ≤ 288230376151711744) (h : s.size < 3 ∨ (3 ≤ s.size ∧ bt s 1 ≠ 58)) (w : World) :
    Calls Try.prog 194 #[.string s] w fun e w' => e = .returned (.tuple #[.agg #[.int .i64 0, .int .i64 0], .bool false]) ∧ Below w.heap.size w w' := by
  rcases h with h | ⟨h, h1⟩
  · go_enter Try.func194, Try.ntmps194
    go_wp2
    exact bodyPost_ret (v := .tuple #[.agg #[.int .i64 0, .int .i64 0], .bool false]) (by simp [results, Try.results194, go_sem]) rfl ⟨rfl, bnew _ _⟩
  · have hb := bt_eq (s := s) (k := 1) (by omega)
    have hne : ((bt s 1 : Int) != 58) = true := by simp; omega
    go_enter Try.func194, Try.ntmps194
    go_wp2
    exact bodyPost_ret (v := .tuple #[.agg #[.int .i64 0, .int .i64 0], .bool false]) (by simp [results, Try.results194, go_sem]) rfl ⟨rfl, bnew _ _⟩

set_option maxRecDepth 100000 in
set_option maxHeartbeats 2000000 in
theorem l01Read_arityB (s : ByteArray) (hs : s.size ≤ 288230376151711744) (h : 3 ≤ s.size) (h1 : bt s 1 = 58) (hn : inB (txN s) 0 4 = false) (w : World) :
    Calls Try.prog 194 #[.string s] w fun e w' => e = .returned (.tuple #[.agg #[.int .i64 0, .int .i64 0], .bool false]) ∧ Below w.heap.size w w' := by
  have hb := bt_eq (s := s) (k := 1) (by omega)
  have hb0 := bt_eq (s := s) (k := 0) (by omega)
  have hne : ((bt s 1 : Int) != 58) = false := by simp [h1]
  have hlt := bt_lt s 0
  unfold txN at hn
  clear h1
  go_enter Try.func194, Try.ntmps194
  go_wp2_with (go_at_call 154; refine (l01In_is hn _).mono ?_; rintro e w' ⟨rfl, rfl⟩)
  exact bodyPost_ret (v := .tuple #[.agg #[.int .i64 0, .int .i64 0], .bool false]) (by simp [results, Try.results194, go_sem]) rfl ⟨rfl, balloc (bnew _ _) _⟩

set_option maxRecDepth 100000 in
set_option maxHeartbeats 2000000 in
theorem l01Read_lenB (s : ByteArray) (hs : s.size ≤ 288230376151711744) (h : 3 ≤ s.size) (h1 : bt s 1 = 58) (hn : inB (txN s) 0 4 = true) {R : Nat} (hR : Hid (rowsN (txN s) = (R : Int))) (r16 : R ≤ 16) (hz : s.size ≠ 2 + R) (w : World) :
    Calls Try.prog 194 #[.string s] w fun e w' => e = .returned (.tuple #[.agg #[.int .i64 0, .int .i64 0], .bool false]) ∧ Below w.heap.size w w' := by
  have hb := bt_eq (s := s) (k := 1) (by omega)
  have hb0 := bt_eq (s := s) (k := 0) (by omega)
  have hne : ((bt s 1 : Int) != 58) = false := by simp [h1]
  have hlt := bt_lt s 0
  have hn2 : 0 ≤ txN s ∧ txN s ≤ 4 := by simpa [inB] using hn
  have hze : ((s.size : Int) != 2 + (R : Int)) = true := by simp; omega
  have RW := Lib.hid (fun W => l01Rows_is hn2.1 hn2.2 hR W)
  unfold txN at hn RW
  clear h1 hz hn2
  go_enter Try.func194, Try.ntmps194
  go_wp2_with (first
    | (go_at_call 154; refine (l01In_is hn _).mono ?_; rintro e w' ⟨rfl, rfl⟩)
    | (go_at_call 148; refine (RW.out _).mono ?_; rintro e w' ⟨rfl, rfl⟩))
  exact bodyPost_ret (v := .tuple #[.agg #[.int .i64 0, .int .i64 0], .bool false]) (by simp [results, Try.results194, go_sem]) rfl ⟨rfl, balloc (bnew _ _) _⟩

set_option maxRecDepth 100000 in
set_option maxHeartbeats 4000000 in
theorem l01Read_longB (s : ByteArray) (hs : s.size ≤ 288230376151711744) (h : 3 ≤ s.size) (h1 : bt s 1 = 58) (hn : inB (txN s) 0 4 = true) {R : Nat} (r0 : 0 < R) (hR : Hid (rowsN (txN s) = (R : Int))) (r16 : R ≤ 16) (hz : s.size = 2 + R) (b : Bool) (hbb : ((xsTo s R).all fun v => inB v 0 1) = b) (w : World) :
    Calls Try.prog 194 #[.string s] w (ReadPost b (txN s) (sumN (dig (xsTo s R)) R : Int) w) := by
  obtain ⟨i0, hinf, hz0, hz1, hz2⟩ := info_parts infoI
  have hb := bt_eq (s := s) (k := 1) (by omega)
  have hb0 := bt_eq (s := s) (k := 0) (by omega)
  have hne : ((bt s 1 : Int) != 58) = false := by simp [h1]
  have hlt0 := bt_lt s 0
  have hn2 : 0 ≤ txN s ∧ txN s ≤ 4 := by simpa [inB] using hn
  have hze : ((s.size : Int) != 2 + (R : Int)) = false := by simp; omega
  have RW := Lib.hid (fun W => l01Rows_is hn2.1 hn2.2 hR W)
  have OF := Lib.hid (fun g cap W => l01Of_any hn2.1 hn2.2 r0 r16 hR g cap (dig (xsTo s R)) (w := W))
  have HBB := Lib.hid hbb
  unfold txN at hn RW OF
  unfold txN
  obtain ⟨W1, hW1⟩ : ∃ W1, w.alloc (.cells #[.int .i64 0, .int .i64 0] 25) = W1 := ⟨_, rfl⟩
  have c0 : W1.cell? ⟨w.heap.size, 0, none⟩ = some (.int .i64 0) := by rw [← hW1]; simp [go_sem]
  have c1 : W1.cell? ⟨w.heap.size, 1, none⟩ = some (.int .i64 0) := by rw [← hW1]; simp [go_sem]
  have f0 : W1.frozen? ⟨w.heap.size, 0, none⟩ = false := by rw [← hW1]; simp [go_sem]
  have f1 : W1.frozen? ⟨w.heap.size, 1, none⟩ = false := by rw [← hW1]; simp [go_sem]
  have hB : Below w.heap.size w W1 := by rw [← hW1]; exact bnew _ _
  have l0 : w.heap.size < W1.heap.size := cell_lt c0
  clear h1 hn2 hbb
  go_enter Try.func194, Try.ntmps194
  go_wp2_with (first
    | (go_at_call 154; refine (l01In_is hn _).mono ?_; rintro e w' ⟨rfl, rfl⟩)
    | (go_at_call 148; refine (RW.out _).mono ?_; rintro e w' ⟨rfl, rfl⟩))
  clear hW1
  go_loopw [5, 6] (fun s' i' wr => ∃ j : Nat, j ≤ R ∧ i' = .int .i64 ((j + 2 : Nat) : Int) ∧ Owns wr W1.heap.size s' (xsTo s j) ∧ Below W1.heap.size W1 wr)
    (fun _ i' _ => R + 2 - (intOf i').toNat)
  case atStart => exact ⟨0, Nat.zero_le _, rfl, World.ownsRow_lit W1 #[] 0 (Nat.le_refl _) (by decide) rfl, bnew _ _⟩
  case round =>
    obtain ⟨j, hj, rfl, hown, hN⟩ := hrel
    have hsz := hN.size
    by_cases hlt : j < R
    · have hjs : j + 2 < s.size := by omega
      have hbj := bt_eq (s := s) (k := j + 2) hjs
      have hbl := bt_lt s (j + 2)
      have HS := Lib.hid (xsTo_succ s j)
      have hlen := xsTo_len s j
      have hown5 : World.ownsRow _ _ _ _ _ _ _ := hown
      go_wp2_with (first
        | (at_builtin; refine wpList_append_own _ rfl _ _ 30 rfl W1.heap.size 2 i0 (.int .i64 0) 1 8 Try.underlying30 hinf hz0 hz1 hz2 rfl (by decide) _ _ _ rfl (hown5.alloc _) ⟨wr.heap.size, 0, none⟩ 1 1 [.int .i64 ((bt s (j + 2) : Int) - 48)] rfl rfl (cell_one_new _ _ _) (one_cell_int _) (by unfold maxLen; omega) (by omega) (by simp; omega) ?_))
      intro v' w1 hown' hgrow _
      have hN' := (balloc hN (.cells #[.int .i64 ((bt s (j + 2) : Int) - 48)] 2)).grown hgrow (by simp; omega) (fun j e => (hown5.lt j e).1)
      clear hgrow hown5 hown hN
      go_wp2
      go_roundw
      case rel => exact ⟨j + 1, by omega, by go_num, by rw [HS.out]; unfold Owns; rw [ints_snoc, List.length_append, xsTo_len]; exact hown', hN'⟩
      case measure => simp [intOf]; omega
    · obtain rfl : j = R := by omega
      have d0 := kc hN c0
      have d1 := kc hN c1
      have g0 := kf hN c0 f0
      have g1 := kf hN c1 f1
      have hB2 := bthen hB hN
      have HO := Lib.hid hown
      have BI := Lib.hid (l01Bits_any (by rw [xsTo_len]; omega) wr hown)
      rcases hown.shape with ⟨e0, _⟩ | ⟨hn0, g, cap, rfl, hbg, hg, hcc, hf⟩
      · have := xsTo_len s j; rw [e0] at this; simp at this; omega
      rw [xsTo_len] at hn0 hcc BI ⊢
      cases b
      · clear hown hcc hf HO
        go_wp2_with (go_at_call 162; refine (BI.out).mono ?_; rintro e w' ⟨he, rfl⟩; rw [HBB.out] at he; subst he)
        exact bodyPost_ret (v := .tuple #[.agg #[.int .i64 0, .int .i64 0], .bool false]) (by simp [results, Try.results194, go_sem, d0, d1]) rfl ⟨rfl, (hB2.setCell (p := ⟨w.heap.size, 0, none⟩) (by simp) _).setCell (p := ⟨w.heap.size, 1, none⟩) (by simp) _⟩
      · have hdi := dig_ok HBB.out
        rw [xsTo_len] at hdi
        have OF2 := Lib.hid (OF.out g cap wr (fun r hr => (hdi r hr).1) hg (Lib.hid fun i hi => by rw [hcc.out i hi, (hdi i hi).2]))
        clear hown hcc hf HO hdi
        go_wp2_with (first
          | (go_at_call 162; refine (BI.out).mono ?_; rintro e w' ⟨he, rfl⟩; rw [HBB.out] at he; subst he)
          | (go_at_call 156; refine OF2.out.mono ?_; rintro e w6 ⟨rfl, hb6⟩; have e0 := kc hb6 d0; have e1 := kc hb6 d1; have j0 := kf hb6 d0 g0; have j1 := kf hb6 d1 g1; have hB6 := bthen hB2 hb6))
        exact bodyPost_ret (v := .tuple #[.agg #[.int .i64 ((bt s 0 : Int) - 48), .int .i64 (sumN (dig (xsTo s j)) j : Int)], .bool true]) (by simp [results, Try.results194, go_sem, e0, e1]) rfl ⟨rfl, (hB6.setCell (p := ⟨w.heap.size, 0, none⟩) (by simp) _).setCell (p := ⟨w.heap.size, 1, none⟩) (by simp) _⟩

theorem l01Read_anyB (s : ByteArray) (hs : s.size ≤ 288230376151711744) (w : World) :
    Calls Try.prog 194 #[.string s] w (ReadPost (rdOk s) (txN s) (rdB s) w) := by
  unfold rdOk
  by_cases h : 3 ≤ s.size
  · by_cases h1 : bt s 1 = 58
    · cases hn : inB (txN s) 0 4
      · simp only [h, h1]
        exact l01Read_arityB s hs h h1 hn w
      · have hn2 : 0 ≤ txN s ∧ txN s ≤ 4 := by simpa [inB] using hn
        obtain ⟨R, hR, r0, r16, he⟩ := rowsN_eq hn2.1 hn2.2
        have hT : txR s = R := he.symm
        unfold rdB
        rw [hT]
        by_cases hz : s.size = 2 + R
        · have e : (s.size == 2 + R) = true := by simp [hz]
          simp only [h, h1, e, decide_true, Bool.true_and, beq_self_eq_true]
          exact l01Read_longB s hs h h1 hn r0 (Lib.hid hR) r16 hz _ rfl w
        · have e : (s.size == 2 + R) = false := by simp [hz]
          simp only [h, h1, e, decide_true, Bool.true_and, beq_self_eq_true, Bool.false_and]
          exact l01Read_lenB s hs h h1 hn (Lib.hid hR) r16 hz w
    · have e : (bt s 1 == 58) = false := by simp [h1]
      simp only [h, e, decide_true, Bool.true_and, Bool.false_and]
      exact l01Read_shortB s hs (.inr ⟨h, h1⟩) w
  · simp only [h, decide_false, Bool.false_and]
    exact l01Read_shortB s hs (.inl (by omega)) w
set_option maxRecDepth 100000 in
set_option maxHeartbeats 1000000 in
theorem lCut_noneB {s : ByteArray} (hs : s.size ≤ 288230376151711744) (h : Lib.indexByte s.data.toList 58 = -1) (w : World) :
    Calls Try.prog 258 #[.string s, .string ⟨#[58]⟩] w fun e w' => e = .returned (.tuple #[.string s, .string ⟨#[]⟩, .bool false]) ∧ Below w.heap.size w w' := by
  go_enter Try.func258, Try.ntmps258
  go_wp2_with (go_at_call 269; refine (Index_is h _).mono ?_; rintro e w' ⟨rfl, rfl⟩)
  go_ret3
  exact ⟨rfl, Below.refl _ _⟩

set_option maxRecDepth 100000 in
set_option maxHeartbeats 1000000 in
theorem lCut_someB {s : ByteArray} {o : Nat} (hs : s.size ≤ 288230376151711744) (ho : o < s.size) (h : Lib.indexByte s.data.toList 58 = (o : Int)) (w : World) :
    Calls Try.prog 258 #[.string s, .string ⟨#[58]⟩] w fun e w' => e = .returned (.tuple #[.string (s.extract 0 o), .string (s.extract (o + 1) s.size), .bool true]) ∧ Below w.heap.size w w' := by
  have h1 : (o : Int) ≤ (s.size : Int) := by omega
  have h2 : (o : Int) + 1 ≤ (s.size : Int) := by omega
  have h3 : (0 : Int) ≤ (o : Int) := by omega
  go_enter Try.func258, Try.ntmps258
  go_wp2_with (go_at_call 269; refine (Index_is h _).mono ?_; rintro e w' ⟨rfl, rfl⟩)
  go_region
  go_wp2
  go_ret3
  exact ⟨rfl, (Below.refl _ _).drew⟩

set_option maxRecDepth 100000 in
set_option maxHeartbeats 1000000 in
theorem Cut_noneB {s : ByteArray} (hs : s.size ≤ 288230376151711744) (h : Lib.indexByte s.data.toList 58 = -1) (w : World) :
    Calls Try.prog 182 #[.string s, .string ⟨#[58]⟩] w fun e w' => e = .returned (.tuple #[.string s, .string ⟨#[]⟩, .bool false]) ∧ Below w.heap.size w w' := by
  go_enter Try.func182, Try.ntmps182
  go_wp2_with (go_at_call 258; refine (lCut_noneB hs h _).mono ?_; rintro e w2 ⟨rfl, hb⟩)
  go_ret3
  exact ⟨rfl, hb⟩

set_option maxRecDepth 100000 in
set_option maxHeartbeats 1000000 in
theorem Cut_someB {s : ByteArray} {o : Nat} (hs : s.size ≤ 288230376151711744) (ho : o < s.size) (h : Lib.indexByte s.data.toList 58 = (o : Int)) (w : World) :
    Calls Try.prog 182 #[.string s, .string ⟨#[58]⟩] w fun e w' => e = .returned (.tuple #[.string (s.extract 0 o), .string (s.extract (o + 1) s.size), .bool true]) ∧ Below w.heap.size w w' := by
  go_enter Try.func182, Try.ntmps182
  go_wp2_with (go_at_call 258; refine (lCut_someB hs ho h _).mono ?_; rintro e w2 ⟨rfl, hb⟩)
  go_ret3
  exact ⟨rfl, hb⟩
set_option maxRecDepth 100000 in
set_option maxHeartbeats 1000000 in
theorem ParseFunc_noneB {s : ByteArray} (hs : s.size ≤ 288230376151711744) (h : Lib.indexByte s.data.toList 58 = -1) (n b : Int) (w : World) :
    Calls Try.prog 62 #[.string s] w (ParsePost false n b w) := by
  obtain ⟨W1, hW1, p0, p1, f0, f1, hB, hs1⟩ := ofBox w
  go_enter Try.func62, Try.ntmps62
  go_wp2_with (first
    | (go_at_call 182; refine (Cut_noneB hs h _).mono ?_; rintro e w2 ⟨rfl, hb⟩; have q0 := kc hb p0; have q1 := kc hb p1; have g0 := kf hb p0 f0; have g1 := kf hb p1 f1; have hB2 := bthen hB hb))
  exact bodyPost_ret (v := .tuple #[.agg #[.int .i64 0, .int .i64 0], .int .i64 6]) (by simp [results, Try.results62, go_sem, q0, q1]) rfl ⟨rfl, (hB2.setCell (p := ⟨w.heap.size, 0, none⟩) (by simp) _).setCell (p := ⟨w.heap.size, 1, none⟩) (by simp) _⟩

theorem implParseFunc_anyB (s : ByteArray) (hs : s.size ≤ 288230376151711744) (w : World) :
    Calls Try.prog 62 #[.string s] w (ParsePost (rdOk s) (txN s) (rdB s) w) := by
  have hlen : s.data.toList.length = s.size := by rw [Array.length_toList]; rfl
  have hge := Lib.indexByte_ge s.data.toList 58
  by_cases hi : Lib.indexByte s.data.toList 58 = -1
  · have hno := Lib.indexByte_none hi
    have hr : rdOk s = false := by
      unfold rdOk
      by_cases h3 : 3 ≤ s.size
      · have h1 : ¬ bt s 1 = 58 := fun e => hno 1 ((bt58 (by omega)).2 e)
        simp [h1]
      · simp [h3]
    rw [hr]
    exact ParseFunc_noneB hs hi _ _ w
  · obtain ⟨o, ho⟩ : ∃ o : Nat, Lib.indexByte s.data.toList 58 = (o : Int) := Int.eq_ofNat_of_zero_le (by omega)
    obtain ⟨hat, hbefore⟩ := Lib.indexByte_some ho
    have hos : o < s.size := by rw [← hlen]; exact (List.getElem?_eq_some_iff.1 hat).1
    have hC := Lib.hid fun W => Cut_someB hs hos ho W
    have hHs : (s.extract 0 o).size = o := by rw [ByteArray.size_extract]; omega
    have hTs : (s.extract (o + 1) s.size).size = s.size - (o + 1) := by rw [ByteArray.size_extract]; omega
    by_cases h1 : o = 1
    · subst h1
      have hb0 : bt (s.extract 0 1) 0 = bt s 0 := by have := bt_extract s 0 1 0 (by omega) (by omega); simpa using this
      have hb1 : bt s 1 = 58 := (bt58 hos).1 hat
      by_cases hbig : 16 < s.size - 2
      · have hr : rdOk s = false := by
          unfold rdOk
          cases hn : inB (txN s) 0 4
          · simp
          · have hn2 : 0 ≤ txN s ∧ txN s ≤ 4 := by simpa [inB] using hn
            obtain ⟨R, hR, r0, r16, he⟩ := rowsN_eq hn2.1 hn2.2
            have e : (s.size == 2 + txR s) = false := by unfold txR; rw [← he]; simp; omega
            rw [e]
            simp
        rw [hr]
        exact ParseFunc_off hC (.inr ⟨by rw [hHs]; rfl, by rw [hTs]; simp; omega⟩) _ _ w
      · have hxs : ∀ j, j ≤ s.size - 2 → tv (s.extract (1 + 1) s.size) j = xsTo s j := by
          intro j hj
          unfold tv xsTo
          refine List.map_congr_left fun r hr => ?_
          have hr' := List.mem_range.1 hr
          rw [bt_extract s (1 + 1) s.size r (Nat.le_refl _) (by omega), show 1 + 1 + r = r + 2 by omega]
        have hn0 : ((bt (s.extract 0 1) 0 : Int) - 48) = txN s := by unfold txN; rw [hb0]
        have hok : (inB ((bt (s.extract 0 1) 0 : Int) - 48) 0 4 && (s.size - 2 == 2 ^ ((bt (s.extract 0 1) 0 : Int) - 48).toNat && (tv (s.extract (1 + 1) s.size) (s.size - 2)).all fun v => inB v 0 1)) = rdOk s := by
          rw [hn0, hxs _ (Nat.le_refl _)]
          unfold rdOk
          rw [hb1]
          have hp : 0 < txR s := Nat.pow_pos (by decide)
          by_cases hz : s.size = 2 + txR s
          · have e1 : s.size - 2 = txR s := by omega
            have e2 : 3 ≤ s.size := by omega
            rw [e1, show (txR s == 2 ^ (txN s).toNat) = true from by simp [txR], show (s.size == 2 + txR s) = true from by simp [hz], show decide (3 ≤ s.size) = true from by simp; omega]
            simp
          · have e1 : (s.size == 2 + txR s) = false := by simp [hz]
            have e2 : (s.size - 2 == 2 ^ (txN s).toNat) = false := by
              have : 2 ^ (txN s).toNat = txR s := rfl
              simp
              omega
            rw [e1, e2]
            simp
        have M := ParseFunc_main hC hHs (L := s.size - 2) (by rw [hTs]) (by omega) hok w
        rw [hn0, hxs _ (Nat.le_refl _)] at M
        cases hr : rdOk s
        · rw [hr] at M
          exact M
        · rw [hr] at M
          have hz : s.size = 2 + txR s := by
            unfold rdOk at hr
            simp at hr
            exact hr.2.2.2.1
          unfold rdB
          rw [show s.size - 2 = txR s by omega] at M
          exact M
    · have hr : rdOk s = false := by
        unfold rdOk
        by_cases h3 : 3 ≤ s.size
        · by_cases h0 : o = 0
          · subst h0
            have hb : bt s 0 = 58 := (bt58 (by omega)).1 hat
            have : inB (txN s) 0 4 = false := by unfold txN; rw [hb]; decide
            simp [this]
          · have hb : ¬ bt s 1 = 58 := fun e => hbefore 1 (by omega) ((bt58 (by omega)).2 e)
            simp [hb]
        · simp [h3]
      rw [hr]
      exact ParseFunc_off hC (.inl (by rw [hHs]; simp; omega)) _ _ w
set_option maxRecDepth 100000 in
set_option maxHeartbeats 2000000 in
theorem specParseFunc_anyB (s : ByteArray) (hs : s.size ≤ 288230376151711744) (w : World) :
    Calls Try.prog 77 #[.string s] w (ParsePost (rdOk s) (txN s) (rdB s) w) := by
  obtain ⟨W1, hW1, p0, p1, f0, f1, hB, hs1⟩ := ofBox w
  have RD := Lib.hid fun W => l01Read_anyB s hs W
  generalize rdOk s = ok at RD ⊢
  generalize txN s = n at RD ⊢
  generalize rdB s = b at RD ⊢
  cases ok
  · have RD0 := Lib.hid fun W => (RD.out W : Calls _ _ _ _ fun e w' => e = .returned (.tuple #[.agg #[.int .i64 0, .int .i64 0], .bool false]) ∧ Below W.heap.size W w')
    go_enter Try.func77, Try.ntmps77
    go_wp2_with (first
      | (go_at_call 194; refine (RD0.out _).mono ?_; rintro e w6 ⟨rfl, hb⟩; have u0 := kc hb p0; have u1 := kc hb p1; have g0 := kf hb p0 f0; have g1 := kf hb p1 f1; have hB2 := bthen hB hb; have hsz6 : w.heap.size < w6.heap.size := cell_lt u0; have hne6 : ¬ (w.heap.size = w6.heap.size) := by omega))
    have Y0 : ((w6.setCell ⟨w.heap.size, 0, none⟩ (.int .i64 0)).setCell ⟨w.heap.size, 1, none⟩ (.int .i64 0)).cell? ⟨w.heap.size, 0, none⟩ = some (.int .i64 0) := by simp [go_sem, u0, u1]
    have Y1 : ((w6.setCell ⟨w.heap.size, 0, none⟩ (.int .i64 0)).setCell ⟨w.heap.size, 1, none⟩ (.int .i64 0)).cell? ⟨w.heap.size, 1, none⟩ = some (.int .i64 0) := by simp [go_sem, u0, u1]
    have Z0 := fun o => kc (bnew _ o) Y0
    have Z1 := fun o => kc (bnew _ o) Y1
    exact bodyPost_ret (v := .tuple #[.agg #[.int .i64 0, .int .i64 0], .int .i64 6]) (by simp [results, Try.results77, go_sem, Z0, Z1]) rfl ⟨rfl, by first | exact balloc ((hB2.setCell (p := ⟨w.heap.size, 0, none⟩) (by simp) _).setCell (p := ⟨w.heap.size, 1, none⟩) (by simp) _) _ | exact ((balloc hB2 _).setCell (p := ⟨w.heap.size, 0, none⟩) (by simp) _).setCell (p := ⟨w.heap.size, 1, none⟩) (by simp) _⟩
  · have RD0 := Lib.hid fun W => (RD.out W : Calls _ _ _ _ fun e w' => e = .returned (.tuple #[.agg #[.int .i64 n, .int .i64 b], .bool true]) ∧ Below W.heap.size W w')
    go_enter Try.func77, Try.ntmps77
    go_wp2_with (first
      | (go_at_call 194; refine (RD0.out _).mono ?_; rintro e w6 ⟨rfl, hb⟩; have u0 := kc hb p0; have u1 := kc hb p1; have g0 := kf hb p0 f0; have g1 := kf hb p1 f1; have hB2 := bthen hB hb; have hsz6 : w.heap.size < w6.heap.size := cell_lt u0; have hne6 : ¬ (w.heap.size = w6.heap.size) := by omega))
    have Y0 : ((w6.setCell ⟨w.heap.size, 0, none⟩ (.int .i64 n)).setCell ⟨w.heap.size, 1, none⟩ (.int .i64 b)).cell? ⟨w.heap.size, 0, none⟩ = some (.int .i64 n) := by simp [go_sem, u0, u1]
    have Y1 : ((w6.setCell ⟨w.heap.size, 0, none⟩ (.int .i64 n)).setCell ⟨w.heap.size, 1, none⟩ (.int .i64 b)).cell? ⟨w.heap.size, 1, none⟩ = some (.int .i64 b) := by simp [go_sem, u0, u1]
    have Z0 := fun o => kc (bnew _ o) Y0
    have Z1 := fun o => kc (bnew _ o) Y1
    exact bodyPost_ret (v := .tuple #[.agg #[.int .i64 n, .int .i64 b], .int .i64 0]) (by simp [results, Try.results77, go_sem, Z0, Z1]) rfl ⟨rfl, by first | exact balloc ((hB2.setCell (p := ⟨w.heap.size, 0, none⟩) (by simp) _).setCell (p := ⟨w.heap.size, 1, none⟩) (by simp) _) _ | exact ((balloc hB2 _).setCell (p := ⟨w.heap.size, 0, none⟩) (by simp) _).setCell (p := ⟨w.heap.size, 1, none⟩) (by simp) _⟩

theorem bothParseFuncB (s : ByteArray) (hs : s.size ≤ 288230376151711744) : ∃ rn rb rc : Int,
    (∀ w, Calls Try.prog 77 #[.string s] w fun e w' => e = .returned (.tuple #[.agg #[.int .i64 rn, .int .i64 rb], .int .i64 rc]) ∧ Below w.heap.size w w') ∧
    (∀ w, Calls Try.prog 62 #[.string s] w fun e w' => e = .returned (.tuple #[.agg #[.int .i64 rn, .int .i64 rb], .int .i64 rc]) ∧ Below w.heap.size w w') :=
  ⟨_, _, _, fun w => specParseFunc_anyB s hs w, fun w => implParseFunc_anyB s hs w⟩
end Go.Proofs.Ytenbokdcdokhiab

/- W4:
  NamedFunc: both packages. -/
namespace Go.Proofs.Ytenbokdcdokhiab
open Go.RowKit
set_option linter.unusedVariables false

theorem nmL_len : nmL.length = 14 := rfl
theorem nmK_get {i : Nat} (h : i < nmL.length) : nmK i = nmL[i].1 := by simp [nmK, h]

theorem bothNamedFunc (s : ByteArray) (hs : s.size ≤ 1048576) : ∃ rn rb rc : Int,
    (∀ w, Calls Try.prog 72 #[.string s] w fun e w' => e = .returned (.tuple #[.agg #[.int .i64 rn, .int .i64 rb], .int .i64 rc]) ∧ Below w.heap.size w w') ∧
    (∀ w, Calls Try.prog 71 #[.string s] w fun e w' => e = .returned (.tuple #[.agg #[.int .i64 rn, .int .i64 rb], .int .i64 rc]) ∧ Below w.heap.size w w') := by
  cases h : nmL.find? (fun e => e.1 == s.data.toList) with
  | none =>
    have hn := List.find?_eq_none.1 h
    refine ⟨0, 0, 4, fun w => specNamedFunc_none (fun j hj e => ?_) w, fun w => implNamedFunc_none hs h w⟩
    have hj' : j < nmL.length := hj
    exact hn nmL[j] (List.getElem_mem hj') (by rw [← e, nmK_get hj']; simp)
  | some e =>
    obtain ⟨hp, k, hk, he, hbefore⟩ := List.find?_eq_some_iff_getElem.1 h
    have hk14 : k < 14 := hk
    have hr := txAt_read k hk14
    have e0 : nmL[k]? = some e := by rw [List.getElem?_eq_getElem hk, he]
    refine ⟨e.2.1, e.2.2, 0, fun w => ?_, fun w => implNamedFunc_some hs h w⟩
    have M := specNamedFunc_some (s := s) hk14 (by rw [nmK_get hk, he]; simpa using hp) (fun j hj c => by
      have hj' : j < nmL.length := Nat.lt_trans hj hk
      have := hbefore j hj
      rw [← c, nmK_get hj'] at this
      simp at this) w
    rw [hr.2.1, hr.2.2, e0] at M
    exact M
end Go.Proofs.Ytenbokdcdokhiab

/- X1:
  The map of names by functions: what it holds while it is filled. -/
namespace Go.Proofs.Ytenbokdcdokhiab
open Go.RowKit
open Go.Maps (Keyed IsMap)
set_option linter.unusedVariables false
set_option linter.unusedSimpArgs false

theorem lawN : Keyed Try.prog 25 :=
  Keyed.of_law (deep_law_gate (by kernel_rfl) (of_decide_eq_true (by kernel_rfl)) (of_decide_eq_true (by kernel_rfl)) (by kernel_rfl) (by kernel_rfl))

/-- What a function reads as, as a key. -/
def kn (p : Int × Int) : Lit := .string (keyBytes [.int .i64 p.1, .int .i64 p.2])
theorem kn_isKey (p : Int × Int) : WideAt.IsKeyLit (kn p) := trivial
def wfP (p : Int × Int) : Prop := (Lit.int .i64 p.1).wf = true ∧ (Lit.int .i64 p.2).wf = true

theorem wfP.key {p : Int × Int} (h : wfP p) : keyOf Try.prog 25 (.agg #[.int .i64 p.1, .int .i64 p.2]) = some (kn p) := by
  obtain ⟨h1, h2⟩ := h
  have k1 : Try.prog.keyType 25 = true := by kernel_rfl
  have c1 : Try.prog.cellsOf 25 = 2 := by kernel_rfl
  have c2 : Try.prog.cellsOf 2 = 1 := by kernel_rfl
  have hd : decide (Try.prog.types.size ≠ 0) = true := by kernel_rfl
  obtain ⟨m, hm⟩ : ∃ m, Try.prog.types.size = m + 1 := Nat.exists_eq_succ_of_ne_zero (of_decide_eq_true hd)
  have f1 : (Value.agg #[.int .i64 p.1, .int .i64 p.2]).formed Try.prog 25 = true := by
    simp [Value.formed, Try.underlying25, c1]
  have e1 : Try.prog.keyLits (Try.prog.types.size + 1) 25 [.int .i64 p.1, .int .i64 p.2] = some [.int .i64 p.1, .int .i64 p.2] := by
    rw [hm]
    simp [Program.keyLits, Try.underlying25, Try.underlying2, c1, c2, h1, h2]
  unfold keyOf
  rw [Try.underlying25]
  simp only [k1, f1, Bool.and_self, if_true]
  rw [show (Value.agg #[.int .i64 p.1, .int .i64 p.2]).cells.toList = [.int .i64 p.1, .int .i64 p.2] from rfl, e1]
  rfl
theorem kn_ne {p q : Int × Int} (hp : wfP p) (hq : wfP q) (h : p ≠ q) : kn p ≠ kn q := by
  intro e
  have h1 := hp.key
  have h2 := hq.key
  rw [← e] at h2
  have := lawN.inj h1 h2
  simp at this
  exact h (Prod.ext this.1 this.2)

theorem nmL_wf : ∀ e ∈ nmL, wfP e.2 := by
  unfold wfP
  decide +kernel
theorem nmL_apart2 : ∀ e ∈ nmL, ∀ f ∈ nmL, e.2 = f.2 → e = f := by decide +kernel
theorem nmL_apart1 : ∀ e ∈ nmL, ∀ f ∈ nmL, e.1 = f.1 → e = f := by decide +kernel

theorem find_only {α : Type} {l : List α} {P : α → Bool} {e : α} (he : e ∈ l) (hp : P e = true) (ho : ∀ f ∈ l, P f = true → f = e) : l.find? P = some e := by
  cases h : l.find? P with
  | none => exact absurd hp (List.find?_eq_none.1 h e he)
  | some f => rw [ho f (List.mem_of_find?_eq_some h) (List.find?_some h)]

theorem any_like {α : Type} {P Q : α → Bool} : ∀ {l : List α}, (∀ x ∈ l, P x = Q x) → l.any P = l.any Q
  | [], _ => rfl
  | a :: l, h => by rw [List.any_cons, List.any_cons, h a (List.mem_cons_self ..), any_like fun x hx => h x (List.mem_cons_of_mem _ hx)]

/-- The entries that have been turned round. -/
def doneN (left : Lit → Bool) (p : Int × Int) (e : List UInt8 × Int × Int) : Bool := e.2 == p && !left (.string e.1)
/-- The map holds the functions of the entries that are no longer to come. -/
def NInv (D : DV) (left : Lit → Bool) : Prop :=
  IsMap D ∧ ∀ p, wfP p → Maps.has D (kn p) = nmL.any (doneN left p) ∧ ∀ z, D.atKey (kn p) z = match nmL.find? (doneN left p) with | some e => .lit (.string e.1) | none => z

theorem NInv.start : NInv (.map []) (Maps.has (putNm (.map []) nmL)) := by
  refine ⟨Maps.isMap_empty, fun p _ => ?_⟩
  have h : ∀ e ∈ nmL, ¬ doneN (Maps.has (putNm (.map []) nmL)) p e = true := by
    intro e he
    unfold doneN
    rw [has_putNm ⟨_, rfl⟩, List.any_eq_true.2 ⟨e, he, by simp⟩]
    simp
  refine ⟨?_, fun z => ?_⟩
  · rw [List.any_eq_false.2 h]; rfl
  · rw [List.find?_eq_none.2 h]; rfl

theorem NInv.step {D : DV} {left : Lit → Bool} (h : NInv D left) {e : List UInt8 × Int × Int} (he : e ∈ nmL) :
    NInv (D.put (kn e.2) (.lit (.string e.1))) (fun z => left z && !z.sameKey (.string e.1)) := by
  obtain ⟨h1, h2⟩ := h
  have hsame : doneN (fun z => left z && !z.sameKey (.string e.1)) e.2 e = true := by
    show (e.2 == e.2 && !(left (.string e.1) && !(Lit.string e.1).sameKey (.string e.1))) = true
    rw [WideAt.sameKey_self (show WideAt.IsKeyLit (Lit.string e.1) from trivial)]
    simp
  refine ⟨h1.put _ _, fun p hp => ?_⟩
  by_cases hpe : p = e.2
  · subst hpe
    refine ⟨?_, fun z => ?_⟩
    · rw [Maps.has_put_same h1 (kn_isKey _), List.any_eq_true.2 ⟨e, he, hsame⟩]
    · rw [Maps.atKey_put_same h1 (kn_isKey _), find_only he hsame (fun f hf hpf => by
        unfold doneN at hpf
        simp at hpf
        exact nmL_apart2 f hf e he hpf.1)]
  · have hk := kn_ne hp (nmL_wf e he) hpe
    have heq : ∀ f ∈ nmL, doneN (fun z => left z && !z.sameKey (.string e.1)) p f = doneN left p f := by
      intro f hf
      unfold doneN
      by_cases hfp : f.2 = p
      · have hne : f.1 ≠ e.1 := fun c => hpe (by rw [← hfp, nmL_apart1 f hf e he c])
        show (f.2 == p && !(left (.string f.1) && !(Lit.string f.1).sameKey (.string e.1))) = (f.2 == p && !left (.string f.1))
        rw [Maps.sameKey_ne (a := .string f.1) (b := .string e.1) (fun c => hne (by injection c))]
        simp
      · have : (f.2 == p) = false := by simp [hfp]
        rw [this]
        rfl
    obtain ⟨g1, g2⟩ := h2 p hp
    refine ⟨?_, fun z => ?_⟩
    · rw [Maps.has_put_other hk, g1]
      exact (any_like heq).symm
    · rw [Maps.atKey_put_other hk, g2 z, Lib.find_congr heq]
end Go.Proofs.Ytenbokdcdokhiab

/- X2:
  namesByFunc: the map of names by functions, filled in whatever order. -/
namespace Go.Proofs.Ytenbokdcdokhiab
open Go.RowKit
open Go.Maps (Keyed IsMap)
set_option linter.unusedVariables false
set_option linter.unusedSimpArgs false

theorem ownsMap_below {H : Type} {P : Program} {k : TypeId} {R : Value → Option (DataW H × List MemPlace)} {w w' : World} {b n : Nat} {D : DataW H} (h : w.ownsMap P k R b n D) (hb : Below w.heap.size w w') : w'.ownsMap P k R b n D := by
  obtain ⟨es, clock, hh, F, hs, hD⟩ := h
  exact ⟨es, clock, (hb.block b (Array.getElem?_eq_some_iff.1 hh).1).trans hh, F, hs, hD⟩

theorem rdFn_shape {v : Value} {y : DV × List MemPlace} (h : rdFn v = some y) : ∃ c : Int × Int, v = .agg #[.int .i64 c.1, .int .i64 c.2] := by
  unfold rdFn at h
  split at h
  · rename_i cs
    split at h
    · rename_i n' x' he
      exact ⟨(n', x'), by rw [show cs = cs.toList.toArray by simp, he]⟩
    · cases h
  · cases h

section
variable (w : World) {ops : Array Oper} {rest : List Oper} {o : Oper} {a : Act} {Q : Exit → Act → World → Prop}
/-- The next entry of the map of the names. -/
theorem wpList_next_named (hg : o.guard = none) (it : Operand) (hop : o.op = Op.next it false) (b r n : Nat) (left : Lit → Bool) (cnt : Nat)
    (hit : a.eval it = .pointer (some ⟨r, 0, none⟩)) (h : w.ranges Try.prog 9 rdFn b r n (putNm (.map []) nmL) left cnt)
    (hDone : cnt = 0 → (∀ kl, left kl = false) → wpList Try.prog ops Q rest (a.put o.dst (.tuple #[.bool false])) w)
    (hMore : ∀ (e : List UInt8 × Int × Int) (w' : World) (cnt' : Nat), e ∈ nmL → left (.string e.1) = true → w'.ranges Try.prog 9 rdFn b r n (putNm (.map []) nmL) (fun z => left z && !z.sameKey (.string e.1)) cnt' → cnt' < cnt →
      w.grownBy w' (some r) → w'.heap.size = w.heap.size → (Instr.entry (.pointer (some ⟨r, 0, none⟩))).run Try.prog w' = .ok (.tuple #[.string ⟨e.1.toArray⟩, .agg #[.int .i64 e.2.1, .int .i64 e.2.2]]) w' →
      wpList Try.prog ops Q rest (a.put o.dst (.tuple #[.bool true, .string ⟨e.1.toArray⟩, .agg #[.int .i64 e.2.1, .int .i64 e.2.2]])) w') :
    wpList Try.prog ops Q (o :: rest) a w := by
  refine wpList_next_ranges w hg it hop 9 lawS rdFn Value.string (fun (c : Int × Int) => .agg #[.int .i64 c.1, .int .i64 c.2])
    (fun key kl hk => by obtain ⟨s, rfl, _, _⟩ := WideMaps.string_of_keyOf Try.underlying9 hk; exact ⟨s, rfl⟩) (fun v y hv => rdFn_shape hv) b r n _ left cnt hit h hDone ?_
  intro x c kl y w' cnt' hkey hlk hv hat hrg hlt hgr hsz hen
  obtain ⟨s, es, rfl, _⟩ := WideMaps.string_of_keyOf Try.underlying9 hkey
  cases es
  have hy : y = (fnD c.1 c.2, []) := (Option.some.inj hv).symm
  subst hy
  have h1 := hat (.map [])
  have h2 := hat (.lit (.bool true))
  rw [at_putNm ⟨_, rfl⟩ _ nmL_apart] at h1 h2
  cases hf : nmL.find? (fun e => e.1 == x.data.toList) with
  | none =>
    rw [hf] at h2
    cases h2
  | some e =>
    rw [hf] at h1
    have he := List.mem_of_find?_eq_some hf
    have hp : e.1 = x.data.toList := by simpa using List.find?_some hf
    simp [fnD] at h1
    have hx : x = ⟨e.1.toArray⟩ := by rw [hp]
    have hc : c = e.2 := Prod.ext h1.1.symm h1.2.symm
    subst hc
    rw [← hp] at hlk hrg
    subst hx
    exact hMore e w' cnt' he hlk hrg hlt hgr hsz hen
end

theorem nmL_short : ∀ e ∈ nmL, (⟨e.1.toArray⟩ : ByteArray).size ≤ maxLen := by
  unfold maxLen
  decide +kernel
theorem size_nm : Maps.size (putNm (.map []) nmL) = 14 := by decide +kernel

set_option maxRecDepth 100000 in
set_option maxHeartbeats 4000000 in
theorem namesByFunc_any (w : World) :
    Calls Try.prog 195 #[] w fun e w' => ∃ D : DV, e = .returned (.map (some w.heap.size)) ∧ w'.ownsMap Try.prog 25 (plainElem Try.prog 9) w.heap.size 14 D ∧ NInv D (fun _ => false) ∧ Below w.heap.size w w' := by
  have hmm := @run_makeMap Try.prog
  obtain ⟨W1, hW1⟩ : ∃ W1, w.alloc (.map #[] 0) = W1 := ⟨_, rfl⟩
  have hout0 : W1.ownsMap Try.prog 25 (plainElem (H := Unit) Try.prog 9) w.heap.size 0 (.map []) := by rw [← hW1]; exact World.ownsMap_made _ _ _ _
  have hB : Below w.heap.size w W1 := by rw [← hW1]; exact bnew _ _
  have hl1 : w.heap.size < W1.heap.size := hout0.lt
  go_enter Try.func195, Try.ntmps195
  go_wp2_with (first
    | (go_at_call 192; refine (funcsByName_any _).mono ?_; rintro e' w2 ⟨rfl, hown, hb⟩; have hout2 := ownsMap_below hout0 hb; have hB2 := bthen hB hb; have hl2 := hown.lt)
    | (at_range; refine wpList_range_own _ rfl _ 120 rfl 9 25 lawS Try.underlying120 rdFn W1.heap.size 14 _ rfl hown ?_; intro w3 hrg0 hg0 hs0))
  go_frame
  have hB3 : Below w.heap.size w w3 := hB2.grown hg0 hB2.size (fun j e => by cases e)
  have hout3 := hout2.kept hg0 (by simp)
  clear hW1 hout0 hout2 hB hB2 hb hown hmm hg0
  go_loopw [2] (fun _ wr => ∃ (left : Lit → Bool) (cnt : Nat) (D : DV), wr.ranges Try.prog 9 rdFn W1.heap.size w2.heap.size 14 (putNm (.map []) nmL) left cnt ∧ cnt ≤ 14 ∧
      wr.ownsMap Try.prog 25 (plainElem Try.prog 9) w.heap.size (14 - cnt) D ∧ Hid (NInv D left) ∧ Below w.heap.size w wr)
    (fun _ wr => wr.rangeLeft W1.heap.size w2.heap.size)
  case atStart => exact ⟨_, _, _, hrg0, by rw [size_nm]; exact Nat.le_refl _, hout3.mono (Nat.zero_le _), Lib.hid NInv.start, hB3⟩
  case round =>
    obtain ⟨left, cnt, D, hrg, hcs, hout, hA, hnx⟩ := hrel
    go_wp2_with (first
      | (at_next; refine wpList_next_named _ rfl _ rfl W1.heap.size w2.heap.size 14 _ _ rfl hrg ?_ ?_))
    · intro hc0 hl0
      have hA2 : Hid (NInv D (fun _ => false)) := by rw [show left = fun _ => false from funext hl0] at hA; exact hA
      subst hc0
      go_wp2
      go_ret
      exact ⟨D, rfl, hout, hA2.out, hnx⟩
    · intro q n x w4 cnt1 he hlx hrg1 hlt hg1 hs1 hen
      have hout1 := hout.kept hg1 (by simp; omega)
      have hk := Lib.hid (nmL_wf (q, n, x) he).key
      have hA2 := Lib.hid (hA.out.step he)
      have hqz := Lib.hid (nmL_short (q, n, x) he)
      have hsz1 := hnx.size
      have hB4 : Below w.heap.size w w4 := hnx.grown hg1 hnx.size (fun j hj => by cases hj; omega)
      clear hout hA
      go_wp2_with (at_mapUpdate; refine wpList_mapUpdate_own _ rfl _ _ _ 124 rfl 25 9 lawN Try.underlying124 _ w.heap.size _ _ rfl (hout1.alloc _) (by unfold maxLen; omega) _ _ _ rfl rfl hk.out _ [] (plainElem_string (s := ⟨q.toArray⟩) Try.underlying9 hqz.out) ?_; intro w5 hout2 hg2; go_frame)
      have hrg2 := (hrg1.alloc (.cells #[.int .i64 n, .int .i64 x] 25)).kept hg2 (fun e => by have := Option.some.inj e; omega) (fun e => by have := Option.some.inj e; omega)
      go_roundw
      case rel => exact ⟨_, cnt1, _, hrg2, by omega, hout2.mono (by omega), hA2, (balloc hB4 _).grown hg2 (balloc hB4 _).size (fun j hj => by cases hj; exact Nat.le_refl _)⟩
      case measure => rw [hrg2.left_eq, hrg.left_eq]; exact hlt
end Go.Proofs.Ytenbokdcdokhiab

/- X3:
  NameOf in the program. -/
namespace Go.Proofs.Ytenbokdcdokhiab
open Go.RowKit
open Go.Maps (Keyed IsMap)
set_option linter.unusedVariables false
set_option linter.unusedSimpArgs false

theorem zeroS (w : World) : (zeroValue 9).run Try.prog w = .ok (.string ⟨#[]⟩) w := by kernel_rfl

/-- The name of a function, if it has one. -/
def nameOf (p : Int × Int) : Option (List UInt8 × Int × Int) := nmL.find? fun e => e.2 == p
def nameB (o : Option (List UInt8 × Int × Int)) : ByteArray := match o with | some e => ⟨e.1.toArray⟩ | none => ⟨#[]⟩

theorem doneN_all (p : Int × Int) : doneN (fun _ => false) p = fun e => e.2 == p := by
  funext e
  simp [doneN]

theorem names_look {w : World} {b : Nat} {D : DV} (hown : w.ownsMap Try.prog 25 (plainElem Try.prog 9) b 14 D) (hN : NInv D (fun _ => false)) {p : Int × Int} (hp : wfP p) :
    (Instr.lookup 124 (.map (some b)) (.agg #[.int .i64 p.1, .int .i64 p.2]) true).run Try.prog w = .ok (.tuple #[.string (nameB (nameOf p)), .bool (nameOf p).isSome]) w := by
  obtain ⟨v, ps, hrun, hv⟩ := hown.look_ok lawN Try.underlying124 (zeroS w) (plainElem_string (s := ⟨#[]⟩) Try.underlying9 (by decide)) hp.key
  obtain ⟨g1, g2⟩ := hN.2 p hp
  rw [doneN_all] at g1 g2
  obtain ⟨s, rfl, hs, _⟩ := plainElem_string_inv Try.underlying9 hv
  rw [g2] at hs
  rw [hrun, g1]
  unfold nameOf
  cases h : nmL.find? (fun e => e.2 == p) with
  | none =>
    rw [h] at hs
    have h1 : nmL.any (fun e => e.2 == p) = false := List.any_eq_false.2 (List.find?_eq_none.1 h)
    simp at hs
    rw [h1]
    have : s = ⟨#[]⟩ := by
      apply ByteArray.ext
      have := hs.1
      simpa using this.symm
    rw [this]
    rfl
  | some e =>
    rw [h] at hs
    have h1 : nmL.any (fun e => e.2 == p) = true := List.any_eq_true.2 ⟨e, List.mem_of_find?_eq_some h, by simpa using List.find?_some h⟩
    simp at hs
    rw [h1]
    have : s = ⟨e.1.toArray⟩ := by
      apply ByteArray.ext
      rw [hs.1]
    rw [this]
    rfl

set_option maxRecDepth 100000 in
set_option maxHeartbeats 1000000 in
theorem implNameOf_no {n b : Int} (h : isF n b = false) (w : World) :
    Calls Try.prog 73 #[.agg #[.int .i64 n, .int .i64 b]] w fun e w' => e = .returned (.tuple #[.string ⟨#[]⟩, .int .i64 1]) ∧ Below w.heap.size w w' := by
  obtain ⟨W1, hW1⟩ : ∃ W1, w.alloc (.cells #[.int .i64 n, .int .i64 b] 25) = W1 := ⟨_, rfl⟩
  have p0 : W1.cell? ⟨w.heap.size, 0, none⟩ = some (.int .i64 n) := by rw [← hW1]; simp [go_sem]
  have p1 : W1.cell? ⟨w.heap.size, 1, none⟩ = some (.int .i64 b) := by rw [← hW1]; simp [go_sem]
  have hB : Below w.heap.size w W1 := by rw [← hW1]; exact bnew _ _
  go_enter Try.func73, Try.ntmps73
  go_wp2_with (first
    | (go_at_call 16; refine (IsFunc_is h _).mono ?_; rintro e w2 ⟨rfl, hb⟩; have hB2 := bthen hB hb))
  go_ret2
  exact ⟨rfl, hB2⟩

set_option maxRecDepth 100000 in
set_option maxHeartbeats 4000000 in
theorem implNameOf_yes {n b : Int} (h : isF n b = true) (hp : wfP (n, b)) {o : Option (List UInt8 × Int × Int)} (ho : nameOf (n, b) = o) (w : World) :
    Calls Try.prog 73 #[.agg #[.int .i64 n, .int .i64 b]] w fun e w' => e = .returned (.tuple #[.string (nameB o), .int .i64 (if o.isSome then 0 else 4)]) ∧ Below w.heap.size w w' := by
  obtain ⟨W1, hW1⟩ : ∃ W1, w.alloc (.cells #[.int .i64 n, .int .i64 b] 25) = W1 := ⟨_, rfl⟩
  have p0 : W1.cell? ⟨w.heap.size, 0, none⟩ = some (.int .i64 n) := by rw [← hW1]; simp [go_sem]
  have p1 : W1.cell? ⟨w.heap.size, 1, none⟩ = some (.int .i64 b) := by rw [← hW1]; simp [go_sem]
  have hB : Below w.heap.size w W1 := by rw [← hW1]; exact bnew _ _
  cases o with
  | none =>
    have NL : Hid (∀ (W : World) (bb : Nat) (D : DV), W.ownsMap Try.prog 25 (plainElem Try.prog 9) bb 14 D → NInv D (fun _ => false) → (Instr.lookup 124 (.map (some bb)) (.agg #[.int .i64 n, .int .i64 b]) true).run Try.prog W = .ok (.tuple #[.string ⟨#[]⟩, .bool false]) W) :=
      Lib.hid fun W bb D h1 h2 => by have := names_look h1 h2 hp; rw [ho] at this; exact this
    go_enter Try.func73, Try.ntmps73
    go_wp2_with (first
      | (go_at_call 16; refine (IsFunc_is h _).mono ?_; rintro e w2 ⟨rfl, hb⟩; have q0 := kc hb p0; have q1 := kc hb p1; have hB2 := bthen hB hb))
    go_region_with (go_at_call 195; refine (namesByFunc_any _).mono ?_; rintro e w3 ⟨D, rfl, hown, hN, hb3⟩; have r0 := kcd hb3 q0; have r1 := kcd hb3 q1; have hrun := NL.out w3 w2.heap.size D hown hN)
    all_goals
      have hB3 := bthen hB2.drew hb3
      go_wp2
      go_ret2
      exact ⟨rfl, hB3⟩
  | some e0 =>
    have NL : Hid (∀ (W : World) (bb : Nat) (D : DV), W.ownsMap Try.prog 25 (plainElem Try.prog 9) bb 14 D → NInv D (fun _ => false) → (Instr.lookup 124 (.map (some bb)) (.agg #[.int .i64 n, .int .i64 b]) true).run Try.prog W = .ok (.tuple #[.string ⟨e0.1.toArray⟩, .bool true]) W) :=
      Lib.hid fun W bb D h1 h2 => by have := names_look h1 h2 hp; rw [ho] at this; exact this
    go_enter Try.func73, Try.ntmps73
    go_wp2_with (first
      | (go_at_call 16; refine (IsFunc_is h _).mono ?_; rintro e w2 ⟨rfl, hb⟩; have q0 := kc hb p0; have q1 := kc hb p1; have hB2 := bthen hB hb))
    go_region_with (go_at_call 195; refine (namesByFunc_any _).mono ?_; rintro e w3 ⟨D, rfl, hown, hN, hb3⟩; have r0 := kcd hb3 q0; have r1 := kcd hb3 q1; have hrun := NL.out w3 w2.heap.size D hown hN)
    all_goals
      have hB3 := bthen hB2.drew hb3
      go_wp2
      go_ret2
      exact ⟨rfl, hB3⟩
end Go.Proofs.Ytenbokdcdokhiab
