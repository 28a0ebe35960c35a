/-
  CountInClass and CountSheffer in both packages.
-/
import Derived.Test.YtcolaggkeekgoaaCT2
import Derived.Test.YtcolaggkeekgoaaKSh
namespace Go.Proofs.Ytcolaggkeekgoaa
open Go.RowKit

/-- The functions of an arity: their rows, their number. -/
theorem arity_nums {n : Int} (h0 : 0 ≤ n) (h4 : n ≤ 4) : ∃ R T : Nat, 0 < R ∧ R ≤ 16 ∧ Hid (rowsN n = (R : Int)) ∧ Hid (T = 2 ^ R) ∧ 0 < T ∧ T ≤ 65536 ∧ Hid (allN n = (T : Int) - 1) ∧ ∀ x, x < T → FOk n x R := by
  obtain ⟨R, hR, r0, r16, he⟩ := rowsN_eq h0 h4
  have h16 : (2 : Nat) ^ R ≤ 2 ^ 16 := Nat.pow_le_pow_right (by decide) r16
  have hp : 0 < 2 ^ R := Nat.two_pow_pos R
  refine ⟨R, 2 ^ R, r0, r16, Lib.hid hR, Lib.hid rfl, hp, h16, Lib.hid ?_, fun x hx => ⟨h0, h4, r0, r16, Lib.hid hR, by omega, he, hx⟩⟩
  rw [allN_rows he]
  omega

theorem l01All_top {n : Int} {T : Nat} (h0 : 0 ≤ n) (h4 : n ≤ 4) (hA : Hid (allN n = (T : Int) - 1)) (w : World) :
    Calls Try.prog 87 #[.int .i64 n] w fun e w' => e = .returned (.int .i64 ((T : Int) - 1)) ∧ w = w' := hA.out ▸ l01All_any n h0 h4 w

set_option maxRecDepth 100000 in
set_option maxHeartbeats 1000000 in
theorem CountInClass1_any {n : Int} {x R : Nat} (ok : FOk n x R) (k : Nat) (hk : k ≤ 4) (bk : Nat) (w : World) (cK : w.cell? ⟨bk, 0, none⟩ = some (.int .i64 (k : Int))) :
    Calls Try.prog 96 #[.agg #[.int .i64 n, .int .i64 (x : Int)], .pointer (some ⟨bk, 0, none⟩)] w fun e w' => e = .returned (.bool (clsN n.toNat x R k)) ∧ Below w.heap.size w w' := by
  have hlt := cell_lt cK
  go_enter Try.func96, Try.ntmps96
  go_wp2_with (go_at_call 91; refine (isInClass_is ok k hk rfl _).mono ?_; rintro e w2 ⟨rfl, hb2⟩)
  go_ret
  exact ⟨rfl, bthen (bnew _ _) hb2⟩

theorem countCls {n : Int} {R T : Nat} (h0 : 0 ≤ n) (h4 : n ≤ 4) (r0 : 0 < R) (r16 : R ≤ 16) (hR : Hid (rowsN n = (R : Int))) (hT : Hid (T = 2 ^ R)) (hT0 : 0 < T) (hT16 : T ≤ 65536) (ok : ∀ x, x < T → FOk n x R) (k : Nat) (hk : k ≤ 4) (bk : Nat) (W : World) (cK : W.cell? ⟨bk, 0, none⟩ = some (.int .i64 (k : Int))) :
    Calls Try.prog 95 #[.int .i64 n, .func (.func 96) #[] #[.pointer (some ⟨bk, 0, none⟩)]] W fun e W' => e = .returned (.int .i64 (cntTo (fun x => clsN n.toNat x R k) T : Int)) ∧ Below W.heap.size W W' :=
  countFuncs_any n h0 h4 R T r0 r16 hR hT hT0 hT16 96 #[.pointer (some ⟨bk, 0, none⟩)] (enters_of Try.func96 (by kernel_rfl) rfl)
    (fun x => clsN n.toNat x R k) W (Lib.hid fun W' hW x hx => CountInClass1_any (ok x hx) k hk bk W' (kc hW cK))

set_option maxRecDepth 100000 in
set_option maxHeartbeats 1000000 in
theorem implCountInClass_no (n k : Int) (h : inB n 0 4 = false ∨ (inB n 0 4 = true ∧ inB k 0 4 = false)) (w : World) :
    Calls Try.prog 70 #[.int .i64 n, .int .i64 k] w fun e w' => e = .returned (.tuple #[.int .i64 0, .int .i64 2]) ∧ Below w.heap.size w w' := by
  rcases h with h | ⟨h, h2⟩
  · go_enter Try.func70, Try.ntmps70
    go_wp2_with (go_at_call 64; refine (isArity_is h _).mono ?_; rintro e w' ⟨rfl, rfl⟩)
    go_ret2
    exact ⟨rfl, bnew _ _⟩
  · go_enter Try.func70, Try.ntmps70
    go_wp2_with (first
      | (go_at_call 64; refine (isArity_is h _).mono ?_; rintro e w' ⟨rfl, rfl⟩)
      | (go_at_call 90; refine (isClass_is h2 _).mono ?_; rintro e w' ⟨rfl, rfl⟩))
    go_ret2
    exact ⟨rfl, bnew _ _⟩

set_option maxRecDepth 100000 in
set_option maxHeartbeats 1000000 in
theorem implCountInClass_yes (n : Int) (h : inB n 0 4 = true) (h0 : 0 ≤ n) (h4 : n ≤ 4) (k : Nat) (hk : k ≤ 4) {R T : Nat} (r0 : 0 < R) (r16 : R ≤ 16) (hR : Hid (rowsN n = (R : Int))) (hT : Hid (T = 2 ^ R)) (hT0 : 0 < T) (hT16 : T ≤ 65536) (ok : ∀ x, x < T → FOk n x R) (w : World) :
    Calls Try.prog 70 #[.int .i64 n, .int .i64 (k : Int)] w fun e w' => e = .returned (.tuple #[.int .i64 (cntTo (fun x => clsN n.toNat x R k) T : Int), .int .i64 0]) ∧ Below w.heap.size w w' := by
  have hi : inB (k : Int) 0 4 = true := inB_true (by omega) (by omega)
  obtain ⟨W1, hW1⟩ : ∃ W1, w.alloc (.cells #[.int .i64 (k : Int)] 2) = W1 := ⟨_, rfl⟩
  have p0 : W1.cell? ⟨w.heap.size, 0, none⟩ = some (.int .i64 (k : Int)) := by rw [← hW1]; simp [go_sem]
  have hB : Below w.heap.size w W1 := by rw [← hW1]; exact bnew _ _
  go_enter Try.func70, Try.ntmps70
  go_wp2_with (first
    | (go_at_call 64; refine (isArity_is h _).mono ?_; rintro e w' ⟨rfl, rfl⟩)
    | (go_at_call 90; refine (isClass_is hi _).mono ?_; rintro e w' ⟨rfl, rfl⟩)
    | (go_at_call 95; refine (countCls h0 h4 r0 r16 hR hT hT0 hT16 ok k hk w.heap.size _ p0).mono ?_; rintro e w2 ⟨rfl, hb2⟩))
  go_ret2
  exact ⟨rfl, bthen hB hb2⟩

end Go.Proofs.Ytcolaggkeekgoaa
