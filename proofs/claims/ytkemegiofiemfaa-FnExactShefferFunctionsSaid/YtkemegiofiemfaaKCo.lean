/-
  CountInClass and CountSheffer in both packages.
-/
import Derived.Test.YtkemegiofiemfaaCT2
import Derived.Test.YtkemegiofiemfaaKSh
namespace Go.Proofs.Ytkemegiofiemfaa
open Go.RowKit

/-- The functions of an arity: their rows, their number. -/
theorem arity_nums {n : Int} (h0 : 0 ≤ n) (h4 : n ≤ 4) : ∃ R T : Nat, 0 < R ∧ R ≤ 16 ∧ Hid (rowsN n = (R : Int)) ∧ Hid (T = 2 ^ R) ∧ 0 < T ∧ T ≤ 65536 ∧ Hid (allN n = (T : Int) - 1) ∧ ∀ x, x < T → FOk n x R := by
  obtain ⟨R, hR, r0, r16, he⟩ := rowsN_eq h0 h4
  have h16 : (2 : Nat) ^ R ≤ 2 ^ 16 := Nat.pow_le_pow_right (by decide) r16
  have hp : 0 < 2 ^ R := Nat.two_pow_pos R
  refine ⟨R, 2 ^ R, r0, r16, Lib.hid hR, Lib.hid rfl, hp, h16, Lib.hid ?_, fun x hx => ⟨h0, h4, r0, r16, Lib.hid hR, by omega, he, hx⟩⟩
  rw [allN_rows he]
  omega

theorem l01All_top {n : Int} {T : Nat} (h0 : 0 ≤ n) (h4 : n ≤ 4) (hA : Hid (allN n = (T : Int) - 1)) (w : World) :
    Calls Try.prog 72 #[.int .i64 n] w fun e w' => e = .returned (.int .i64 ((T : Int) - 1)) ∧ w = w' := hA.out ▸ l01All_any n h0 h4 w

set_option maxRecDepth 100000 in
set_option maxHeartbeats 1000000 in
theorem CountInClass1_any {n : Int} {x R : Nat} (ok : FOk n x R) (k : Nat) (hk : k ≤ 4) (bk : Nat) (w : World) (cK : w.cell? ⟨bk, 0, none⟩ = some (.int .i64 (k : Int))) :
    Calls Try.prog 71 #[.agg #[.int .i64 n, .int .i64 (x : Int)], .pointer (some ⟨bk, 0, none⟩)] w fun e w' => e = .returned (.bool (clsN n.toNat x R k)) ∧ Below w.heap.size w w' := by
  have hlt := cell_lt cK
  go_enter Try.func71, Try.ntmps71
  go_wp2_with (go_at_call 66; refine (isInClass_is ok k hk rfl _).mono ?_; rintro e w2 ⟨rfl, hb2⟩)
  go_ret
  exact ⟨rfl, bthen (bnew _ _) hb2⟩

theorem countCls {n : Int} {R T : Nat} (h0 : 0 ≤ n) (h4 : n ≤ 4) (r0 : 0 < R) (r16 : R ≤ 16) (hR : Hid (rowsN n = (R : Int))) (hT : Hid (T = 2 ^ R)) (hT0 : 0 < T) (hT16 : T ≤ 65536) (ok : ∀ x, x < T → FOk n x R) (k : Nat) (hk : k ≤ 4) (bk : Nat) (W : World) (cK : W.cell? ⟨bk, 0, none⟩ = some (.int .i64 (k : Int))) :
    Calls Try.prog 70 #[.int .i64 n, .func (.func 71) #[] #[.pointer (some ⟨bk, 0, none⟩)]] W fun e W' => e = .returned (.int .i64 (cntTo (fun x => clsN n.toNat x R k) T : Int)) ∧ Below W.heap.size W W' :=
  countFuncs_any n h0 h4 R T r0 r16 hR hT hT0 hT16 71 #[.pointer (some ⟨bk, 0, none⟩)] (enters_of Try.func71 (by kernel_rfl) rfl)
    (fun x => clsN n.toNat x R k) W (Lib.hid fun W' hW x hx => CountInClass1_any (ok x hx) k hk bk W' (kc hW cK))

theorem countSh {n : Int} {R T : Nat} (h0 : 0 ≤ n) (h4 : n ≤ 4) (r0 : 0 < R) (r16 : R ≤ 16) (hR : Hid (rowsN n = (R : Int))) (hT : Hid (T = 2 ^ R)) (hT0 : 0 < T) (hT16 : T ≤ 65536) (ok : ∀ x, x < T → FOk n x R) (W : World) :
    Calls Try.prog 70 #[.int .i64 n, .func (.func 74) #[] #[]] W fun e W' => e = .returned (.int .i64 (cntTo (fun x => noneTo n.toNat x R 5) T : Int)) ∧ Below W.heap.size W W' :=
  countFuncs_any n h0 h4 R T r0 r16 hR hT hT0 hT16 74 #[] (enters_of Try.func74 (by kernel_rfl) rfl)
    (fun x => noneTo n.toNat x R 5) W (Lib.hid fun W' _ x hx => isSheffer_any (ok x hx) W')

set_option maxRecDepth 100000 in
set_option maxHeartbeats 1000000 in
theorem implCountInClass_no (n k : Int) (h : inB n 0 4 = false ∨ (inB n 0 4 = true ∧ inB k 0 4 = false)) (w : World) :
    Calls Try.prog 23 #[.int .i64 n, .int .i64 k] w fun e w' => e = .returned (.tuple #[.int .i64 0, .int .i64 2]) ∧ Below w.heap.size w w' := by
  rcases h with h | ⟨h, h2⟩
  · go_enter Try.func23, Try.ntmps23
    go_wp2_with (go_at_call 69; refine (isArity_is h _).mono ?_; rintro e w' ⟨rfl, rfl⟩)
    go_ret2
    exact ⟨rfl, bnew _ _⟩
  · go_enter Try.func23, Try.ntmps23
    go_wp2_with (first
      | (go_at_call 69; refine (isArity_is h _).mono ?_; rintro e w' ⟨rfl, rfl⟩)
      | (go_at_call 65; refine (isClass_is h2 _).mono ?_; rintro e w' ⟨rfl, rfl⟩))
    go_ret2
    exact ⟨rfl, bnew _ _⟩

set_option maxRecDepth 100000 in
set_option maxHeartbeats 1000000 in
theorem specCountInClass_no (n k : Int) (h : inB n 0 4 = false ∨ (inB n 0 4 = true ∧ inB k 0 4 = false)) (w : World) :
    Calls Try.prog 24 #[.int .i64 n, .int .i64 k] w fun e w' => e = .returned (.tuple #[.int .i64 0, .int .i64 2]) ∧ Below w.heap.size w w' := by
  rcases h with h | ⟨h, h2⟩
  · go_enter Try.func24, Try.ntmps24
    go_wp2_with (go_at_call 67; refine (l01In_is h _).mono ?_; rintro e w' ⟨rfl, rfl⟩)
    go_ret2
    exact ⟨rfl, Below.refl _ _⟩
  · go_enter Try.func24, Try.ntmps24
    go_wp2_with fail
    refine (l01In_is h _).mono ?_
    rintro e w' ⟨rfl, rfl⟩
    go_wp2_with fail
    refine (l01In_is h2 _).mono ?_
    rintro e w' ⟨rfl, rfl⟩
    go_wp2
    go_ret2
    exact ⟨rfl, Below.refl _ _⟩

set_option maxRecDepth 100000 in
set_option maxHeartbeats 1000000 in
theorem implCountInClass_yes (n : Int) (h : inB n 0 4 = true) (h0 : 0 ≤ n) (h4 : n ≤ 4) (k : Nat) (hk : k ≤ 4) {R T : Nat} (r0 : 0 < R) (r16 : R ≤ 16) (hR : Hid (rowsN n = (R : Int))) (hT : Hid (T = 2 ^ R)) (hT0 : 0 < T) (hT16 : T ≤ 65536) (ok : ∀ x, x < T → FOk n x R) (w : World) :
    Calls Try.prog 23 #[.int .i64 n, .int .i64 (k : Int)] w fun e w' => e = .returned (.tuple #[.int .i64 (cntTo (fun x => clsN n.toNat x R k) T : Int), .int .i64 0]) ∧ Below w.heap.size w w' := by
  have hi : inB (k : Int) 0 4 = true := inB_true (by omega) (by omega)
  obtain ⟨W1, hW1⟩ : ∃ W1, w.alloc (.cells #[.int .i64 (k : Int)] 2) = W1 := ⟨_, rfl⟩
  have p0 : W1.cell? ⟨w.heap.size, 0, none⟩ = some (.int .i64 (k : Int)) := by rw [← hW1]; simp [go_sem]
  have hB : Below w.heap.size w W1 := by rw [← hW1]; exact bnew _ _
  go_enter Try.func23, Try.ntmps23
  go_wp2_with (first
    | (go_at_call 69; refine (isArity_is h _).mono ?_; rintro e w' ⟨rfl, rfl⟩)
    | (go_at_call 65; refine (isClass_is hi _).mono ?_; rintro e w' ⟨rfl, rfl⟩)
    | (go_at_call 70; refine (countCls h0 h4 r0 r16 hR hT hT0 hT16 ok k hk w.heap.size _ p0).mono ?_; rintro e w2 ⟨rfl, hb2⟩))
  go_ret2
  exact ⟨rfl, bthen hB hb2⟩

set_option maxRecDepth 100000 in
set_option maxHeartbeats 2000000 in
theorem specCountInClass_yes (n : Int) (h : inB n 0 4 = true) (h0 : 0 ≤ n) (h4 : n ≤ 4) (k : Nat) (hk : k ≤ 4) {R T : Nat} (hT0 : 0 < T) (hT16 : T ≤ 65536) (hA : Hid (allN n = (T : Int) - 1)) (ok : ∀ x, x < T → FOk n x R) (w : World) :
    Calls Try.prog 24 #[.int .i64 n, .int .i64 (k : Int)] w fun e w' => e = .returned (.tuple #[.int .i64 (cntTo (fun x => clsN n.toNat x R k) T : Int), .int .i64 0]) ∧ Below w.heap.size w w' := by
  have hi : inB (k : Int) 0 4 = true := inB_true (by omega) (by omega)
  go_enter Try.func24, Try.ntmps24
  go_wp2_with fail
  refine (l01In_is h _).mono ?_
  rintro e w' ⟨rfl, rfl⟩
  go_wp2_with fail
  refine (l01In_is hi _).mono ?_
  rintro e w' ⟨rfl, rfl⟩
  go_wp2
  go_loopw [6, 7] (fun c' b' wr => ∃ b : Nat, b ≤ T ∧ b' = .int .i64 b ∧ c' = .int .i64 (cntTo (fun x => clsN n.toNat x R k) b : Int) ∧ Below w.heap.size w wr)
    (fun _ b' _ => T - (intOf b').toNat)
  case atStart => exact ⟨0, by omega, rfl, rfl, Below.refl _ _⟩
  case round =>
    obtain ⟨b, hb, rfl, rfl, hB⟩ := hrel
    have hle := cntTo_le (fun x => clsN n.toNat x R k) b
    by_cases hlt : b < T
    · have hs := cntTo_succ (fun x => clsN n.toNat x R k) b
      have hok := Lib.hid (ok b hlt)
      cases hc : clsN n.toNat b R k
      · have HS := Lib.hid (show cntTo (fun x => clsN n.toNat x R k) (b + 1) = cntTo (fun x => clsN n.toNat x R k) b by rw [hs, hc]; rfl)
        have HC := Lib.hid hc
        clear hs hc
        go_wp2_with (first
          | (go_at_call 72; refine (l01All_top h0 h4 hA _).mono ?_; rintro e w' ⟨rfl, rfl⟩)
          | (go_at_call 63; refine (l02In_is hok.out k hk HC.out _).mono ?_; rintro e w2 ⟨rfl, hb2⟩))
        go_roundw
        case rel => exact ⟨b + 1, by omega, by go_num, by rw [HS.out], bthen hB hb2⟩
        case measure => simp [intOf]; omega
      · have HS := Lib.hid (show cntTo (fun x => clsN n.toNat x R k) (b + 1) = cntTo (fun x => clsN n.toNat x R k) b + 1 by rw [hs, hc]; rfl)
        have HC := Lib.hid hc
        clear hs hc
        go_wp2_with (first
          | (go_at_call 72; refine (l01All_top h0 h4 hA _).mono ?_; rintro e w' ⟨rfl, rfl⟩)
          | (go_at_call 63; refine (l02In_is hok.out k hk HC.out _).mono ?_; rintro e w2 ⟨rfl, hb2⟩))
        go_roundw
        case rel => exact ⟨b + 1, by omega, by go_num, by rw [HS.out]; go_num, bthen hB hb2⟩
        case measure => simp [intOf]; omega
    · obtain rfl : b = T := by omega
      go_wp2_with (go_at_call 72; refine (l01All_top h0 h4 hA _).mono ?_; rintro e w' ⟨rfl, rfl⟩)
      go_ret2
      exact ⟨rfl, hB⟩

theorem bothCountInClass (n k : Int) (_ : (Lit.int .i64 n).wf = true) (_ : (Lit.int .i64 k).wf = true) : ∃ ra rc : Int,
    (∀ w, Calls Try.prog 24 #[.int .i64 n, .int .i64 k] w fun e w' => e = .returned (.tuple #[.int .i64 ra, .int .i64 rc]) ∧ Below w.heap.size w w') ∧
    (∀ w, Calls Try.prog 23 #[.int .i64 n, .int .i64 k] w fun e w' => e = .returned (.tuple #[.int .i64 ra, .int .i64 rc]) ∧ Below w.heap.size w w') := by
  cases h : inB n 0 4
  · exact ⟨_, _, specCountInClass_no n k (.inl h), implCountInClass_no n k (.inl h)⟩
  · cases hk : inB k 0 4
    · exact ⟨_, _, specCountInClass_no n k (.inr ⟨h, hk⟩), implCountInClass_no n k (.inr ⟨h, hk⟩)⟩
    · have hn2 : 0 ≤ n ∧ n ≤ 4 := by simpa [inB] using h
      have hk2 : 0 ≤ k ∧ k ≤ 4 := by simpa [inB] using hk
      obtain ⟨j, rfl⟩ := Int.eq_ofNat_of_zero_le hk2.1
      obtain ⟨R, T, r0, r16, hR, hT, hT0, hT16, hA, ok⟩ := arity_nums hn2.1 hn2.2
      exact ⟨_, _, specCountInClass_yes n h hn2.1 hn2.2 j (by omega) hT0 hT16 hA ok, implCountInClass_yes n h hn2.1 hn2.2 j (by omega) r0 r16 hR hT hT0 hT16 ok⟩

set_option maxRecDepth 100000 in
set_option maxHeartbeats 1000000 in
theorem implCountSheffer_no (n : Int) (h : inB n 0 4 = false) (w : World) :
    Calls Try.prog 33 #[.int .i64 n] w fun e w' => e = .returned (.tuple #[.int .i64 0, .int .i64 2]) ∧ Below w.heap.size w w' := by
  go_enter Try.func33, Try.ntmps33
  go_wp2_with (go_at_call 69; refine (isArity_is h _).mono ?_; rintro e w' ⟨rfl, rfl⟩)
  go_ret2
  exact ⟨rfl, Below.refl _ _⟩

set_option maxRecDepth 100000 in
set_option maxHeartbeats 1000000 in
theorem specCountSheffer_no (n : Int) (h : inB n 0 4 = false) (w : World) :
    Calls Try.prog 34 #[.int .i64 n] w fun e w' => e = .returned (.tuple #[.int .i64 0, .int .i64 2]) ∧ Below w.heap.size w w' := by
  go_enter Try.func34, Try.ntmps34
  go_wp2_with (go_at_call 67; refine (l01In_is h _).mono ?_; rintro e w' ⟨rfl, rfl⟩)
  go_ret2
  exact ⟨rfl, Below.refl _ _⟩

set_option maxRecDepth 100000 in
set_option maxHeartbeats 1000000 in
theorem implCountSheffer_yes (n : Int) (h : inB n 0 4 = true) (h0 : 0 ≤ n) (h4 : n ≤ 4) {R T : Nat} (r0 : 0 < R) (r16 : R ≤ 16) (hR : Hid (rowsN n = (R : Int))) (hT : Hid (T = 2 ^ R)) (hT0 : 0 < T) (hT16 : T ≤ 65536) (ok : ∀ x, x < T → FOk n x R) (w : World) :
    Calls Try.prog 33 #[.int .i64 n] w fun e w' => e = .returned (.tuple #[.int .i64 (cntTo (fun x => noneTo n.toNat x R 5) T : Int), .int .i64 0]) ∧ Below w.heap.size w w' := by
  go_enter Try.func33, Try.ntmps33
  go_wp2_with (first
    | (go_at_call 69; refine (isArity_is h _).mono ?_; rintro e w' ⟨rfl, rfl⟩)
    | (go_at_call 70; refine (countSh h0 h4 r0 r16 hR hT hT0 hT16 ok _).mono ?_; rintro e w2 ⟨rfl, hb2⟩))
  go_ret2
  exact ⟨rfl, hb2⟩

set_option maxRecDepth 100000 in
set_option maxHeartbeats 2000000 in
theorem specCountSheffer_yes (n : Int) (h : inB n 0 4 = true) (h0 : 0 ≤ n) (h4 : n ≤ 4) {R T : Nat} (hT0 : 0 < T) (hT16 : T ≤ 65536) (hA : Hid (allN n = (T : Int) - 1)) (ok : ∀ x, x < T → FOk n x R) (w : World) :
    Calls Try.prog 34 #[.int .i64 n] w fun e w' => e = .returned (.tuple #[.int .i64 (cntTo (fun x => noneTo n.toNat x R 5) T : Int), .int .i64 0]) ∧ Below w.heap.size w w' := by
  go_enter Try.func34, Try.ntmps34
  go_wp2_with (go_at_call 67; refine (l01In_is h _).mono ?_; rintro e w' ⟨rfl, rfl⟩)
  go_loopw [4, 5] (fun c' b' wr => ∃ b : Nat, b ≤ T ∧ b' = .int .i64 b ∧ c' = .int .i64 (cntTo (fun x => noneTo n.toNat x R 5) b : Int) ∧ Below w.heap.size w wr)
    (fun _ b' _ => T - (intOf b').toNat)
  case atStart => exact ⟨0, by omega, rfl, rfl, Below.refl _ _⟩
  case round =>
    obtain ⟨b, hb, rfl, rfl, hB⟩ := hrel
    have hle := cntTo_le (fun x => noneTo n.toNat x R 5) b
    by_cases hlt : b < T
    · have hs := cntTo_succ (fun x => noneTo n.toNat x R 5) b
      have hok := Lib.hid (l02Sheffer_any (ok b hlt))
      cases hc : noneTo n.toNat b R 5
      · rw [hc] at hok
        have HS := Lib.hid (show cntTo (fun x => noneTo n.toNat x R 5) (b + 1) = cntTo (fun x => noneTo n.toNat x R 5) b by rw [hs, hc]; rfl)
        clear hs hc
        go_wp2_with (first
          | (go_at_call 72; refine (l01All_top h0 h4 hA _).mono ?_; rintro e w' ⟨rfl, rfl⟩)
          | (go_at_call 75; refine (hok.out _).mono ?_; rintro e w2 ⟨rfl, hb2⟩))
        go_roundw
        case rel => exact ⟨b + 1, by omega, by go_num, by rw [HS.out], bthen hB hb2⟩
        case measure => simp [intOf]; omega
      · rw [hc] at hok
        have HS := Lib.hid (show cntTo (fun x => noneTo n.toNat x R 5) (b + 1) = cntTo (fun x => noneTo n.toNat x R 5) b + 1 by rw [hs, hc]; rfl)
        clear hs hc
        go_wp2_with (first
          | (go_at_call 72; refine (l01All_top h0 h4 hA _).mono ?_; rintro e w' ⟨rfl, rfl⟩)
          | (go_at_call 75; refine (hok.out _).mono ?_; rintro e w2 ⟨rfl, hb2⟩))
        go_roundw
        case rel => exact ⟨b + 1, by omega, by go_num, by rw [HS.out]; go_num, bthen hB hb2⟩
        case measure => simp [intOf]; omega
    · obtain rfl : b = T := by omega
      go_wp2_with (go_at_call 72; refine (l01All_top h0 h4 hA _).mono ?_; rintro e w' ⟨rfl, rfl⟩)
      go_ret2
      exact ⟨rfl, hB⟩

theorem bothCountSheffer (n : Int) (_ : (Lit.int .i64 n).wf = true) : ∃ ra rc : Int,
    (∀ w, Calls Try.prog 34 #[.int .i64 n] w fun e w' => e = .returned (.tuple #[.int .i64 ra, .int .i64 rc]) ∧ Below w.heap.size w w') ∧
    (∀ w, Calls Try.prog 33 #[.int .i64 n] w fun e w' => e = .returned (.tuple #[.int .i64 ra, .int .i64 rc]) ∧ Below w.heap.size w w') := by
  cases h : inB n 0 4
  · exact ⟨_, _, specCountSheffer_no n h, implCountSheffer_no n h⟩
  · have hn2 : 0 ≤ n ∧ n ≤ 4 := by simpa [inB] using h
    obtain ⟨R, T, r0, r16, hR, hT, hT0, hT16, hA, ok⟩ := arity_nums hn2.1 hn2.2
    exact ⟨_, _, specCountSheffer_yes n h hn2.1 hn2.2 hT0 hT16 hA ok, implCountSheffer_yes n h hn2.1 hn2.2 r0 r16 hR hT hT0 hT16 ok⟩
end Go.Proofs.Ytkemegiofiemfaa
