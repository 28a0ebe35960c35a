/-
  The texts ID8, ID9, ID7, Y1, Y2, Y3, Y4 in one.
-/
import Derived.Test.YtbdhlokbpbiijaaMPFnIdentities6
import Derived.Lib.BufferOwn
import Derived.Deep.AppendLies

/- ID8:
  Kinds of functions of three arguments: isOfKind of the program, l10Kind of the model. -/
namespace Go.Proofs.Ytbdhlokbpbiijaa
open Go.RowKit Go.Shelf
set_option linter.unusedVariables false
set_option linter.unusedSimpArgs false

/-- The sets of a kind. -/
def kdL (k : Nat) : List Nat := match k with | 0 => [4, 2, 1] | 1 => [3, 5, 6] | _ => [6, 3]
def kdB (n : Int) (x R k : Nat) : Bool := (n == 3) && (if k = 3 then idB x R && symB x R else fotL x R (kdL k) && idB x R)
theorem kdB_other {n : Int} (h : n ≠ 3) (x R k : Nat) : kdB n x R k = false := by
  unfold kdB
  have : (n == 3) = false := by simpa using h
  rw [this]; rfl
/-- x and y do not show that a function is of no kind k. -/
def knP (k x a b : Nat) : Bool := match k with
  | 0 => bitN x (a + 2 * a + 4 * b) == a && (bitN x (a + 2 * b + 4 * a) == a && bitN x (b + 2 * a + 4 * a) == a)
  | 1 => bitN x (a + 2 * a + 4 * b) == b && (bitN x (a + 2 * b + 4 * a) == b && bitN x (b + 2 * a + 4 * a) == b)
  | _ => bitN x (b + 2 * a + 4 * a) == b && bitN x (a + 2 * a + 4 * b) == b
def knI (k x a j : Nat) : Bool := allLt j fun b => knP k x a b
def knA (k x i : Nat) : Bool := allLt i fun a => knI k x a 2
theorem knI_succ (k x a j : Nat) : knI k x a (j + 1) = (knI k x a j && knP k x a j) := allLt_succ _ _
theorem knA_succ (k x i : Nat) : knA k x (i + 1) = (knA k x i && knI k x i 2) := allLt_succ _ _
theorem knA_false {k x a b : Nat} (ha : a < 2) (hb : b < 2) (h : knP k x a b = false) : knA k x 2 = false := by
  cases hc : knA k x 2
  · rfl
  · have := allLt_iff.1 (allLt_iff.1 hc a ha) b hb
    rw [h] at this
    cases this
theorem kn_is : ∀ k, k < 3 → ∀ x, x < 256 → knA k x 2 = (fotL x 8 (kdL k) && idB x 8) := by decide +kernel
theorem kdB_kn {x k : Nat} (hk : k < 3) (hx : x < 256) : kdB 3 x 8 k = knA k x 2 := by
  unfold kdB
  rw [if_neg (by omega), kn_is k hk x hx]; rfl
theorem kdB_three (x R : Nat) : kdB 3 x R 3 = (idB x R && symB x R) := by unfold kdB; rw [if_pos rfl]; rfl
theorem l01At_to {n : Int} {x k : Nat} (hx : x < 2 ^ 62) (hk : k < 62) (J : Int) (w : World) (h : J = (k : Int)) :
    Calls Try.prog 115 #[.agg #[.int .i64 n, .int .i64 (x : Int)], .int .i64 J] w fun e w' => e = .returned (.int .i64 (bitN x k : Int)) ∧ Below w.heap.size w w' := h ▸ l01At_any n x k hx hk w

set_option maxRecDepth 100000 in
set_option maxHeartbeats 4000000 in
theorem isOfKind_other {n : Int} {x R : Nat} (ok : FOk n x R) (hn : n ≠ 3) (k : Int) (w : World) :
    Calls Try.prog 144 #[.agg #[.int .i64 n, .int .i64 (x : Int)], .int .i64 k] w fun e w' => e = .returned (.bool false) ∧ Below w.heap.size w w' := by
  have hne : (n != 3) = true := by simpa using hn
  obtain ⟨W1, hW1⟩ : ∃ W1, w.alloc (.cells #[.int .i64 n, .int .i64 (x : Int)] 25) = W1 := ⟨_, rfl⟩
  have p0 : W1.cell? ⟨w.heap.size, 0, none⟩ = some (.int .i64 n) := by rw [← hW1]; simp [go_sem]
  have p1 : W1.cell? ⟨w.heap.size, 1, none⟩ = some (.int .i64 (x : Int)) := by rw [← hW1]; simp [go_sem]
  have hB : Below w.heap.size w W1 := by rw [← hW1]; exact bnew _ _
  go_enter Try.func144, Try.ntmps144
  go_wp2
  go_ret
  exact ⟨rfl, hB⟩

set_option maxRecDepth 100000 in
set_option maxHeartbeats 4000000 in
theorem isOfKind_0 {x R : Nat} (ok : FOk 3 x R) (w : World) :
    Calls Try.prog 144 #[.agg #[.int .i64 3, .int .i64 (x : Int)], .int .i64 0] w fun e w' => e = .returned (.bool (kdB 3 x R 0)) ∧ Below w.heap.size w w' := by
  have hR : R = 8 := by rw [ok.he]; rfl
  have HE : Hid (kdB 3 x R 0 = (fotL x R [4, 2, 1] && idB x R)) := Lib.hid (by unfold kdB; rw [if_neg (by decide)]; rfl)
  have FT := Lib.hid (fun W base s (h : Owns W base s (nL [4, 2, 1])) => isFirstOfTwo_any ok (l := [4, 2, 1]) (by decide) (by rw [hR]; decide) W h)
  rw [HE.out]
  generalize (fotL x R [4, 2, 1] && idB x R) = fb at FT ⊢
  clear hR HE
  obtain ⟨W1, hW1⟩ : ∃ W1, w.alloc (.cells #[.int .i64 3, .int .i64 (x : Int)] 25) = W1 := ⟨_, rfl⟩
  have p0 : W1.cell? ⟨w.heap.size, 0, none⟩ = some (.int .i64 3) := by rw [← hW1]; simp [go_sem]
  have p1 : W1.cell? ⟨w.heap.size, 1, none⟩ = some (.int .i64 (x : Int)) := by rw [← hW1]; simp [go_sem]
  have hB : Below w.heap.size w W1 := by rw [← hW1]; exact bnew _ _
  have HO : Hid (Owns (W1.alloc (.cells #[.int .i64 4, .int .i64 2, .int .i64 1] 2)) 0 (.slice (some ⟨W1.heap.size, 0, none⟩) 3 3) (nL [4, 2, 1])) := Lib.hid (World.ownsRow_lit W1 #[.int .i64 4, .int .i64 2, .int .i64 1] 3 (Nat.zero_le _) (by decide) rfl)
  go_enter Try.func144, Try.ntmps144
  go_wp2_with (go_at_call 197; refine (FT.out _ _ _ HO.out).mono ?_; rintro e w2 ⟨rfl, hb2⟩)
  go_ret
  exact ⟨rfl, bthen (balloc hB _) hb2⟩

set_option maxRecDepth 100000 in
set_option maxHeartbeats 4000000 in
theorem isOfKind_1 {x R : Nat} (ok : FOk 3 x R) (w : World) :
    Calls Try.prog 144 #[.agg #[.int .i64 3, .int .i64 (x : Int)], .int .i64 1] w fun e w' => e = .returned (.bool (kdB 3 x R 1)) ∧ Below w.heap.size w w' := by
  have hR : R = 8 := by rw [ok.he]; rfl
  have HE : Hid (kdB 3 x R 1 = (fotL x R [3, 5, 6] && idB x R)) := Lib.hid (by unfold kdB; rw [if_neg (by decide)]; rfl)
  have FT := Lib.hid (fun W base s (h : Owns W base s (nL [3, 5, 6])) => isFirstOfTwo_any ok (l := [3, 5, 6]) (by decide) (by rw [hR]; decide) W h)
  rw [HE.out]
  generalize (fotL x R [3, 5, 6] && idB x R) = fb at FT ⊢
  clear hR HE
  obtain ⟨W1, hW1⟩ : ∃ W1, w.alloc (.cells #[.int .i64 3, .int .i64 (x : Int)] 25) = W1 := ⟨_, rfl⟩
  have p0 : W1.cell? ⟨w.heap.size, 0, none⟩ = some (.int .i64 3) := by rw [← hW1]; simp [go_sem]
  have p1 : W1.cell? ⟨w.heap.size, 1, none⟩ = some (.int .i64 (x : Int)) := by rw [← hW1]; simp [go_sem]
  have hB : Below w.heap.size w W1 := by rw [← hW1]; exact bnew _ _
  have HO : Hid (Owns (W1.alloc (.cells #[.int .i64 3, .int .i64 5, .int .i64 6] 2)) 0 (.slice (some ⟨W1.heap.size, 0, none⟩) 3 3) (nL [3, 5, 6])) := Lib.hid (World.ownsRow_lit W1 #[.int .i64 3, .int .i64 5, .int .i64 6] 3 (Nat.zero_le _) (by decide) rfl)
  go_enter Try.func144, Try.ntmps144
  go_wp2_with (go_at_call 197; refine (FT.out _ _ _ HO.out).mono ?_; rintro e w2 ⟨rfl, hb2⟩)
  go_ret
  exact ⟨rfl, bthen (balloc hB _) hb2⟩

set_option maxRecDepth 100000 in
set_option maxHeartbeats 4000000 in
theorem isOfKind_2 {x R : Nat} (ok : FOk 3 x R) (w : World) :
    Calls Try.prog 144 #[.agg #[.int .i64 3, .int .i64 (x : Int)], .int .i64 2] w fun e w' => e = .returned (.bool (kdB 3 x R 2)) ∧ Below w.heap.size w w' := by
  have hR : R = 8 := by rw [ok.he]; rfl
  have HE : Hid (kdB 3 x R 2 = (fotL x R [6, 3] && idB x R)) := Lib.hid (by unfold kdB; rw [if_neg (by decide)]; rfl)
  have FT := Lib.hid (fun W base s (h : Owns W base s (nL [6, 3])) => isFirstOfTwo_any ok (l := [6, 3]) (by decide) (by rw [hR]; decide) W h)
  rw [HE.out]
  generalize (fotL x R [6, 3] && idB x R) = fb at FT ⊢
  clear hR HE
  obtain ⟨W1, hW1⟩ : ∃ W1, w.alloc (.cells #[.int .i64 3, .int .i64 (x : Int)] 25) = W1 := ⟨_, rfl⟩
  have p0 : W1.cell? ⟨w.heap.size, 0, none⟩ = some (.int .i64 3) := by rw [← hW1]; simp [go_sem]
  have p1 : W1.cell? ⟨w.heap.size, 1, none⟩ = some (.int .i64 (x : Int)) := by rw [← hW1]; simp [go_sem]
  have hB : Below w.heap.size w W1 := by rw [← hW1]; exact bnew _ _
  have HO : Hid (Owns (W1.alloc (.cells #[.int .i64 6, .int .i64 3] 2)) 0 (.slice (some ⟨W1.heap.size, 0, none⟩) 2 2) (nL [6, 3])) := Lib.hid (World.ownsRow_lit W1 #[.int .i64 6, .int .i64 3] 2 (Nat.zero_le _) (by decide) rfl)
  go_enter Try.func144, Try.ntmps144
  go_wp2_with (go_at_call 197; refine (FT.out _ _ _ HO.out).mono ?_; rintro e w2 ⟨rfl, hb2⟩)
  go_ret
  exact ⟨rfl, bthen (balloc hB _) hb2⟩

set_option maxRecDepth 100000 in
set_option maxHeartbeats 4000000 in
theorem isOfKind_3 {x R : Nat} (ok : FOk 3 x R) (w : World) :
    Calls Try.prog 144 #[.agg #[.int .i64 3, .int .i64 (x : Int)], .int .i64 3] w fun e w' => e = .returned (.bool (kdB 3 x R 3)) ∧ Below w.heap.size w w' := by
  rw [kdB_three]
  have IS := Lib.hid (fun W => isIdempotentAndSymmetric_any ok W)
  generalize (idB x R && symB x R) = fb at IS ⊢
  obtain ⟨W1, hW1⟩ : ∃ W1, w.alloc (.cells #[.int .i64 3, .int .i64 (x : Int)] 25) = W1 := ⟨_, rfl⟩
  have p0 : W1.cell? ⟨w.heap.size, 0, none⟩ = some (.int .i64 3) := by rw [← hW1]; simp [go_sem]
  have p1 : W1.cell? ⟨w.heap.size, 1, none⟩ = some (.int .i64 (x : Int)) := by rw [← hW1]; simp [go_sem]
  have hB : Below w.heap.size w W1 := by rw [← hW1]; exact bnew _ _
  go_enter Try.func144, Try.ntmps144
  go_wp2_with (go_at_call 151; refine (IS.out _).mono ?_; rintro e w2 ⟨rfl, hb2⟩)
  go_ret
  exact ⟨rfl, bthen hB hb2⟩

theorem isOfKind_any {n : Int} {x R : Nat} (ok : FOk n x R) (k : Nat) (hk : k < 4) (w : World) :
    Calls Try.prog 144 #[.agg #[.int .i64 n, .int .i64 (x : Int)], .int .i64 (k : Int)] w fun e w' => e = .returned (.bool (kdB n x R k)) ∧ Below w.heap.size w w' := by
  by_cases hn : n = 3
  · subst hn
    rcases (show k = 0 ∨ k = 1 ∨ k = 2 ∨ k = 3 by omega) with rfl | rfl | rfl | rfl
    · exact isOfKind_0 ok w
    · exact isOfKind_1 ok w
    · exact isOfKind_2 ok w
    · exact isOfKind_3 ok w
  · rw [kdB_other hn]
    exact isOfKind_other ok hn _ w

set_option maxRecDepth 100000 in
set_option maxHeartbeats 4000000 in
theorem l10Kind_other {n : Int} {x R : Nat} (ok : FOk n x R) (hn : n ≠ 3) (k : Int) (w : World) :
    Calls Try.prog 146 #[.agg #[.int .i64 n, .int .i64 (x : Int)], .int .i64 k] w fun e w' => e = .returned (.bool false) ∧ Below w.heap.size w w' := by
  have hne : (n != 3) = true := by simpa using hn
  obtain ⟨W1, hW1⟩ : ∃ W1, w.alloc (.cells #[.int .i64 n, .int .i64 (x : Int)] 25) = W1 := ⟨_, rfl⟩
  have p0 : W1.cell? ⟨w.heap.size, 0, none⟩ = some (.int .i64 n) := by rw [← hW1]; simp [go_sem]
  have p1 : W1.cell? ⟨w.heap.size, 1, none⟩ = some (.int .i64 (x : Int)) := by rw [← hW1]; simp [go_sem]
  have hB : Below w.heap.size w W1 := by rw [← hW1]; exact bnew _ _
  go_enter Try.func146, Try.ntmps146
  go_wp2
  go_ret
  exact ⟨rfl, hB⟩

set_option maxRecDepth 100000 in
set_option maxHeartbeats 4000000 in
theorem l10Kind_3 {x R : Nat} (ok : FOk 3 x R) (w : World) :
    Calls Try.prog 146 #[.agg #[.int .i64 3, .int .i64 (x : Int)], .int .i64 3] w fun e w' => e = .returned (.bool (kdB 3 x R 3)) ∧ Below w.heap.size w w' := by
  rw [kdB_three]
  have A0 := fun W => l10Idem_any ok W
  have B := Lib.hid (fun W => l10Symmetric_any ok W)
  generalize symB x R = fb at B ⊢
  obtain ⟨W1, hW1⟩ : ∃ W1, w.alloc (.cells #[.int .i64 3, .int .i64 (x : Int)] 25) = W1 := ⟨_, rfl⟩
  have p0 : W1.cell? ⟨w.heap.size, 0, none⟩ = some (.int .i64 3) := by rw [← hW1]; simp [go_sem]
  have p1 : W1.cell? ⟨w.heap.size, 1, none⟩ = some (.int .i64 (x : Int)) := by rw [← hW1]; simp [go_sem]
  have hB : Below w.heap.size w W1 := by rw [← hW1]; exact bnew _ _
  cases h0 : idB x R
  · rw [h0] at A0
    have A := Lib.hid A0
    clear A0 h0
    go_enter Try.func146, Try.ntmps146
    go_wp2_with (go_at_call 148; refine (A.out _).mono ?_; rintro e w2 ⟨rfl, hb2⟩)
    go_ret
    exact ⟨rfl, bthen hB hb2⟩
  · rw [h0] at A0
    have A := Lib.hid A0
    clear A0 h0
    go_enter Try.func146, Try.ntmps146
    go_wp2_with fail
    refine (A.out _).mono ?_
    rintro e w2 ⟨rfl, hb2⟩
    have q0 := kc hb2 p0
    have q1 := kc hb2 p1
    have hB2 := bthen hB hb2
    clear p0 p1 hW1
    go_wp2_with fail
    refine (B.out _).mono ?_
    rintro e w3 ⟨rfl, hb3⟩
    go_wp2
    go_ret
    exact ⟨rfl, bthen hB2 hb3⟩

set_option maxRecDepth 100000 in
set_option maxHeartbeats 4000000 in
theorem l10Kind_0 {x : Nat} (ok : FOk 3 x 8) (w : World) :
    Calls Try.prog 146 #[.agg #[.int .i64 3, .int .i64 (x : Int)], .int .i64 0] w fun e w' => e = .returned (.bool (knA 0 x 2)) ∧ Below w.heap.size w w' := by
  obtain ⟨W1, hW1⟩ : ∃ W1, w.alloc (.cells #[.int .i64 3, .int .i64 (x : Int)] 25) = W1 := ⟨_, rfl⟩
  have p0 : W1.cell? ⟨w.heap.size, 0, none⟩ = some (.int .i64 3) := by rw [← hW1]; simp [go_sem]
  have p1 : W1.cell? ⟨w.heap.size, 1, none⟩ = some (.int .i64 (x : Int)) := by rw [← hW1]; simp [go_sem]
  have hB : Below w.heap.size w W1 := by rw [← hW1]; exact bnew _ _
  go_enter Try.func146, Try.ntmps146
  go_wp2
  clear hW1
  go_loopw [5] (fun i' wr => ∃ a : Nat, a ≤ 2 ∧ i' = .int .i64 a ∧ Hid (knA 0 x a = true) ∧ ((wr.cell? ⟨w.heap.size, 0, none⟩ = some (.int .i64 3) ∧ wr.cell? ⟨w.heap.size, 1, none⟩ = some (.int .i64 (x : Int))) ∧ Below w.heap.size w wr)) (fun i' _ => 2 - (intOf i').toNat)
  case atStart => exact ⟨0, by omega, rfl, Lib.hid rfl, ⟨p0, p1⟩, hB⟩
  case round =>
    clear p0 p1 hB
    obtain ⟨a, ha, rfl, hm, ⟨p0, p1⟩, hB⟩ := hrel
    obtain ⟨wo, rfl⟩ : ∃ wo : World, wo = wr := ⟨_, rfl⟩
    by_cases hlt : a < 2
    · have l1 : decide ((a : Int) < 2) = true := decide_eq_true (by omega)
      go_wp2
      go_loopw [6] (fun v' wr => ∃ b : Nat, b ≤ 2 ∧ v' = .int .i64 b ∧ Hid (knI 0 x a b = true) ∧ ((wr.cell? ⟨w.heap.size, 0, none⟩ = some (.int .i64 3) ∧ wr.cell? ⟨w.heap.size, 1, none⟩ = some (.int .i64 (x : Int))) ∧ Below w.heap.size w wr)) (fun v' _ => 2 - (intOf v').toNat)
      case atStart => exact ⟨0, by omega, rfl, Lib.hid rfl, ⟨p0, p1⟩, hB⟩
      case round =>
        clear p0 p1 hB
        obtain ⟨b, hb, rfl, hu, ⟨p0, p1⟩, hB⟩ := hrel
        by_cases hltb : b < 2
        · have l2 : decide ((b : Int) < 2) = true := decide_eq_true (by omega)
          have A1 := Lib.hid (l01At_to (n := 3) (x := x) (k := a + 2 * a + 4 * b) ok.hx (by omega))
          have A2 := Lib.hid (l01At_to (n := 3) (x := x) (k := a + 2 * b + 4 * a) ok.hx (by omega))
          have A3 := Lib.hid (l01At_to (n := 3) (x := x) (k := b + 2 * a + 4 * a) ok.hx (by omega))
          have HN := fun (h : knP 0 x a b = true) => Lib.hid (show knI 0 x a (b + 1) = true by rw [knI_succ, hu.out, h]; rfl)
          have HF := fun (h : knP 0 x a b = false) => Lib.hid (knA_false hlt hltb h)
          unfold knP at HN HF
          have w1 : IntKind.i64.wrap (2 * (a : Int)) = 2 * (a : Int) := wrap64_in (by omega) (by omega)
          have w2 : IntKind.i64.wrap (2 * (b : Int)) = 2 * (b : Int) := wrap64_in (by omega) (by omega)
          have w3 : IntKind.i64.wrap (4 * (a : Int)) = 4 * (a : Int) := wrap64_in (by omega) (by omega)
          have w4 : IntKind.i64.wrap (4 * (b : Int)) = 4 * (b : Int) := wrap64_in (by omega) (by omega)
          have w5 : IntKind.i64.wrap ((a : Int) + 2 * (a : Int)) = (a : Int) + 2 * (a : Int) := wrap64_in (by omega) (by omega)
          have w6 : IntKind.i64.wrap ((a : Int) + 2 * (b : Int)) = (a : Int) + 2 * (b : Int) := wrap64_in (by omega) (by omega)
          have w7 : IntKind.i64.wrap ((b : Int) + 2 * (a : Int)) = (b : Int) + 2 * (a : Int) := wrap64_in (by omega) (by omega)
          have w8 : IntKind.i64.wrap ((a : Int) + 2 * (a : Int) + 4 * (b : Int)) = (a : Int) + 2 * (a : Int) + 4 * (b : Int) := wrap64_in (by omega) (by omega)
          have w9 : IntKind.i64.wrap ((a : Int) + 2 * (b : Int) + 4 * (a : Int)) = (a : Int) + 2 * (b : Int) + 4 * (a : Int) := wrap64_in (by omega) (by omega)
          have w10 : IntKind.i64.wrap ((b : Int) + 2 * (a : Int) + 4 * (a : Int)) = (b : Int) + 2 * (a : Int) + 4 * (a : Int) := wrap64_in (by omega) (by omega)
          generalize bitN x (a + 2 * a + 4 * b) = v1 at A1 HN HF
          generalize bitN x (a + 2 * b + 4 * a) = v2 at A2 HN HF
          generalize bitN x (b + 2 * a + 4 * a) = v3 at A3 HN HF
          by_cases ev1 : v1 = a
          · by_cases ev2 : v2 = a
            · by_cases ev3 : v3 = a
              · have H := HN (by simp [ev1, ev2, ev3])
                have nv1 : ((v1 : Int) != (a : Int)) = false := by simp [ev1]
                have nv2 : ((v2 : Int) != (a : Int)) = false := by simp [ev2]
                have nv3 : ((v3 : Int) != (a : Int)) = false := by simp [ev3]
                clear HN HF hu ev1 ev2 ev3
                go_wp2
                go_region_held3 (fun w' => (w'.cell? ⟨w.heap.size, 0, none⟩ = some (.int .i64 3) ∧ w'.cell? ⟨w.heap.size, 1, none⟩ = some (.int .i64 (x : Int))) ∧ Below w.heap.size w w') (first | exact ⟨⟨p0, p1⟩, hB.drew⟩ | assumption | exact step_heldC hb1 (by assumption))
                  (first
                    | (go_at_call 115; refine (A1.out _ _ (by omega)).mono ?_; rintro e w' ⟨rfl, hb1⟩)
                    | (go_at_call 115; refine (A2.out _ _ (by omega)).mono ?_; rintro e w' ⟨rfl, hb1⟩)
                    | (go_at_call 115; refine (A3.out _ _ (by omega)).mono ?_; rintro e w' ⟨rfl, hb1⟩)
                    | fail)
                obtain ⟨⟨y0, y1⟩, hB3⟩ := (‹(_ ∧ _) ∧ Below _ _ _›)
                go_wp2
                go_roundw
                case rel => exact ⟨b + 1, by omega, by go_num, H, ⟨y0, y1⟩, hB3⟩
                case measure => simp [intOf]; omega
              · have H := HF (by simp [ev1, ev2, ev3])
                have nv1 : ((v1 : Int) != (a : Int)) = false := by simp [ev1]
                have nv2 : ((v2 : Int) != (a : Int)) = false := by simp [ev2]
                have nv3 : ((v3 : Int) != (a : Int)) = true := by simp; omega
                clear HN HF hu ev1 ev2 ev3
                go_wp2
                go_region_held3 (fun w' => (w'.cell? ⟨w.heap.size, 0, none⟩ = some (.int .i64 3) ∧ w'.cell? ⟨w.heap.size, 1, none⟩ = some (.int .i64 (x : Int))) ∧ Below w.heap.size w w') (first | exact ⟨⟨p0, p1⟩, hB.drew⟩ | assumption | exact step_heldC hb1 (by assumption))
                  (first
                    | (go_at_call 115; refine (A1.out _ _ (by omega)).mono ?_; rintro e w' ⟨rfl, hb1⟩)
                    | (go_at_call 115; refine (A2.out _ _ (by omega)).mono ?_; rintro e w' ⟨rfl, hb1⟩)
                    | (go_at_call 115; refine (A3.out _ _ (by omega)).mono ?_; rintro e w' ⟨rfl, hb1⟩)
                    | fail)
                obtain ⟨⟨y0, y1⟩, hB3⟩ := (‹(_ ∧ _) ∧ Below _ _ _›)
                go_wp2
                go_ret
                exact ⟨by rw [H.out]; rfl, hB3⟩
            · have H := HF (by simp [ev1, ev2])
              have nv1 : ((v1 : Int) != (a : Int)) = false := by simp [ev1]
              have nv2 : ((v2 : Int) != (a : Int)) = true := by simp; omega
              clear HN HF hu ev1 ev2
              go_wp2
              go_region_held3 (fun w' => (w'.cell? ⟨w.heap.size, 0, none⟩ = some (.int .i64 3) ∧ w'.cell? ⟨w.heap.size, 1, none⟩ = some (.int .i64 (x : Int))) ∧ Below w.heap.size w w') (first | exact ⟨⟨p0, p1⟩, hB.drew⟩ | assumption | exact step_heldC hb1 (by assumption))
                (first
                  | (go_at_call 115; refine (A1.out _ _ (by omega)).mono ?_; rintro e w' ⟨rfl, hb1⟩)
                  | (go_at_call 115; refine (A2.out _ _ (by omega)).mono ?_; rintro e w' ⟨rfl, hb1⟩)
                  | (go_at_call 115; refine (A3.out _ _ (by omega)).mono ?_; rintro e w' ⟨rfl, hb1⟩)
                  | fail)
              obtain ⟨⟨y0, y1⟩, hB3⟩ := (‹(_ ∧ _) ∧ Below _ _ _›)
              go_wp2
              go_ret
              exact ⟨by rw [H.out]; rfl, hB3⟩
          · have H := HF (by simp [ev1])
            have nv1 : ((v1 : Int) != (a : Int)) = true := by simp; omega
            clear HN HF hu ev1
            go_wp2
            go_region_held3 (fun w' => (w'.cell? ⟨w.heap.size, 0, none⟩ = some (.int .i64 3) ∧ w'.cell? ⟨w.heap.size, 1, none⟩ = some (.int .i64 (x : Int))) ∧ Below w.heap.size w w') (first | exact ⟨⟨p0, p1⟩, hB.drew⟩ | assumption | exact step_heldC hb1 (by assumption))
              (first
                | (go_at_call 115; refine (A1.out _ _ (by omega)).mono ?_; rintro e w' ⟨rfl, hb1⟩)
                | (go_at_call 115; refine (A2.out _ _ (by omega)).mono ?_; rintro e w' ⟨rfl, hb1⟩)
                | (go_at_call 115; refine (A3.out _ _ (by omega)).mono ?_; rintro e w' ⟨rfl, hb1⟩)
                | fail)
            obtain ⟨⟨y0, y1⟩, hB3⟩ := (‹(_ ∧ _) ∧ Below _ _ _›)
            go_wp2
            go_ret
            exact ⟨by rw [H.out]; rfl, hB3⟩
        · obtain rfl : b = 2 := by omega
          have H1 := Lib.hid (show knA 0 x (a + 1) = true by rw [knA_succ, hm.out, hu.out]; rfl)
          go_wp2
          go_roundw
          case rel => exact ⟨a + 1, by omega, by go_num, H1, ⟨p0, p1⟩, hB⟩
          case measure => simp [intOf]; omega
    · obtain rfl : a = 2 := by omega
      have H1 := hm.out
      go_wp2
      go_ret
      exact ⟨by rw [H1]; rfl, hB⟩

set_option maxRecDepth 100000 in
set_option maxHeartbeats 4000000 in
theorem l10Kind_1 {x : Nat} (ok : FOk 3 x 8) (w : World) :
    Calls Try.prog 146 #[.agg #[.int .i64 3, .int .i64 (x : Int)], .int .i64 1] w fun e w' => e = .returned (.bool (knA 1 x 2)) ∧ Below w.heap.size w w' := by
  obtain ⟨W1, hW1⟩ : ∃ W1, w.alloc (.cells #[.int .i64 3, .int .i64 (x : Int)] 25) = W1 := ⟨_, rfl⟩
  have p0 : W1.cell? ⟨w.heap.size, 0, none⟩ = some (.int .i64 3) := by rw [← hW1]; simp [go_sem]
  have p1 : W1.cell? ⟨w.heap.size, 1, none⟩ = some (.int .i64 (x : Int)) := by rw [← hW1]; simp [go_sem]
  have hB : Below w.heap.size w W1 := by rw [← hW1]; exact bnew _ _
  go_enter Try.func146, Try.ntmps146
  go_wp2
  clear hW1
  go_loopw [5] (fun i' wr => ∃ a : Nat, a ≤ 2 ∧ i' = .int .i64 a ∧ Hid (knA 1 x a = true) ∧ ((wr.cell? ⟨w.heap.size, 0, none⟩ = some (.int .i64 3) ∧ wr.cell? ⟨w.heap.size, 1, none⟩ = some (.int .i64 (x : Int))) ∧ Below w.heap.size w wr)) (fun i' _ => 2 - (intOf i').toNat)
  case atStart => exact ⟨0, by omega, rfl, Lib.hid rfl, ⟨p0, p1⟩, hB⟩
  case round =>
    clear p0 p1 hB
    obtain ⟨a, ha, rfl, hm, ⟨p0, p1⟩, hB⟩ := hrel
    obtain ⟨wo, rfl⟩ : ∃ wo : World, wo = wr := ⟨_, rfl⟩
    by_cases hlt : a < 2
    · have l1 : decide ((a : Int) < 2) = true := decide_eq_true (by omega)
      go_wp2
      go_loopw [6] (fun v' wr => ∃ b : Nat, b ≤ 2 ∧ v' = .int .i64 b ∧ Hid (knI 1 x a b = true) ∧ ((wr.cell? ⟨w.heap.size, 0, none⟩ = some (.int .i64 3) ∧ wr.cell? ⟨w.heap.size, 1, none⟩ = some (.int .i64 (x : Int))) ∧ Below w.heap.size w wr)) (fun v' _ => 2 - (intOf v').toNat)
      case atStart => exact ⟨0, by omega, rfl, Lib.hid rfl, ⟨p0, p1⟩, hB⟩
      case round =>
        clear p0 p1 hB
        obtain ⟨b, hb, rfl, hu, ⟨p0, p1⟩, hB⟩ := hrel
        by_cases hltb : b < 2
        · have l2 : decide ((b : Int) < 2) = true := decide_eq_true (by omega)
          have A1 := Lib.hid (l01At_to (n := 3) (x := x) (k := a + 2 * a + 4 * b) ok.hx (by omega))
          have A2 := Lib.hid (l01At_to (n := 3) (x := x) (k := a + 2 * b + 4 * a) ok.hx (by omega))
          have A3 := Lib.hid (l01At_to (n := 3) (x := x) (k := b + 2 * a + 4 * a) ok.hx (by omega))
          have HN := fun (h : knP 1 x a b = true) => Lib.hid (show knI 1 x a (b + 1) = true by rw [knI_succ, hu.out, h]; rfl)
          have HF := fun (h : knP 1 x a b = false) => Lib.hid (knA_false hlt hltb h)
          unfold knP at HN HF
          have w1 : IntKind.i64.wrap (2 * (a : Int)) = 2 * (a : Int) := wrap64_in (by omega) (by omega)
          have w2 : IntKind.i64.wrap (2 * (b : Int)) = 2 * (b : Int) := wrap64_in (by omega) (by omega)
          have w3 : IntKind.i64.wrap (4 * (a : Int)) = 4 * (a : Int) := wrap64_in (by omega) (by omega)
          have w4 : IntKind.i64.wrap (4 * (b : Int)) = 4 * (b : Int) := wrap64_in (by omega) (by omega)
          have w5 : IntKind.i64.wrap ((a : Int) + 2 * (a : Int)) = (a : Int) + 2 * (a : Int) := wrap64_in (by omega) (by omega)
          have w6 : IntKind.i64.wrap ((a : Int) + 2 * (b : Int)) = (a : Int) + 2 * (b : Int) := wrap64_in (by omega) (by omega)
          have w7 : IntKind.i64.wrap ((b : Int) + 2 * (a : Int)) = (b : Int) + 2 * (a : Int) := wrap64_in (by omega) (by omega)
          have w8 : IntKind.i64.wrap ((a : Int) + 2 * (a : Int) + 4 * (b : Int)) = (a : Int) + 2 * (a : Int) + 4 * (b : Int) := wrap64_in (by omega) (by omega)
          have w9 : IntKind.i64.wrap ((a : Int) + 2 * (b : Int) + 4 * (a : Int)) = (a : Int) + 2 * (b : Int) + 4 * (a : Int) := wrap64_in (by omega) (by omega)
          have w10 : IntKind.i64.wrap ((b : Int) + 2 * (a : Int) + 4 * (a : Int)) = (b : Int) + 2 * (a : Int) + 4 * (a : Int) := wrap64_in (by omega) (by omega)
          generalize bitN x (a + 2 * a + 4 * b) = v1 at A1 HN HF
          generalize bitN x (a + 2 * b + 4 * a) = v2 at A2 HN HF
          generalize bitN x (b + 2 * a + 4 * a) = v3 at A3 HN HF
          by_cases ev1 : v1 = b
          · by_cases ev2 : v2 = b
            · by_cases ev3 : v3 = b
              · have H := HN (by simp [ev1, ev2, ev3])
                have nv1 : ((v1 : Int) != (b : Int)) = false := by simp [ev1]
                have nv2 : ((v2 : Int) != (b : Int)) = false := by simp [ev2]
                have nv3 : ((v3 : Int) != (b : Int)) = false := by simp [ev3]
                clear HN HF hu ev1 ev2 ev3
                go_wp2
                go_region_held3 (fun w' => (w'.cell? ⟨w.heap.size, 0, none⟩ = some (.int .i64 3) ∧ w'.cell? ⟨w.heap.size, 1, none⟩ = some (.int .i64 (x : Int))) ∧ Below w.heap.size w w') (first | exact ⟨⟨p0, p1⟩, hB.drew⟩ | assumption | exact step_heldC hb1 (by assumption))
                  (first
                    | (go_at_call 115; refine (A1.out _ _ (by omega)).mono ?_; rintro e w' ⟨rfl, hb1⟩)
                    | (go_at_call 115; refine (A2.out _ _ (by omega)).mono ?_; rintro e w' ⟨rfl, hb1⟩)
                    | (go_at_call 115; refine (A3.out _ _ (by omega)).mono ?_; rintro e w' ⟨rfl, hb1⟩)
                    | fail)
                obtain ⟨⟨y0, y1⟩, hB3⟩ := (‹(_ ∧ _) ∧ Below _ _ _›)
                go_wp2
                go_roundw
                case rel => exact ⟨b + 1, by omega, by go_num, H, ⟨y0, y1⟩, hB3⟩
                case measure => simp [intOf]; omega
              · have H := HF (by simp [ev1, ev2, ev3])
                have nv1 : ((v1 : Int) != (b : Int)) = false := by simp [ev1]
                have nv2 : ((v2 : Int) != (b : Int)) = false := by simp [ev2]
                have nv3 : ((v3 : Int) != (b : Int)) = true := by simp; omega
                clear HN HF hu ev1 ev2 ev3
                go_wp2
                go_region_held3 (fun w' => (w'.cell? ⟨w.heap.size, 0, none⟩ = some (.int .i64 3) ∧ w'.cell? ⟨w.heap.size, 1, none⟩ = some (.int .i64 (x : Int))) ∧ Below w.heap.size w w') (first | exact ⟨⟨p0, p1⟩, hB.drew⟩ | assumption | exact step_heldC hb1 (by assumption))
                  (first
                    | (go_at_call 115; refine (A1.out _ _ (by omega)).mono ?_; rintro e w' ⟨rfl, hb1⟩)
                    | (go_at_call 115; refine (A2.out _ _ (by omega)).mono ?_; rintro e w' ⟨rfl, hb1⟩)
                    | (go_at_call 115; refine (A3.out _ _ (by omega)).mono ?_; rintro e w' ⟨rfl, hb1⟩)
                    | fail)
                obtain ⟨⟨y0, y1⟩, hB3⟩ := (‹(_ ∧ _) ∧ Below _ _ _›)
                go_wp2
                go_ret
                exact ⟨by rw [H.out]; rfl, hB3⟩
            · have H := HF (by simp [ev1, ev2])
              have nv1 : ((v1 : Int) != (b : Int)) = false := by simp [ev1]
              have nv2 : ((v2 : Int) != (b : Int)) = true := by simp; omega
              clear HN HF hu ev1 ev2
              go_wp2
              go_region_held3 (fun w' => (w'.cell? ⟨w.heap.size, 0, none⟩ = some (.int .i64 3) ∧ w'.cell? ⟨w.heap.size, 1, none⟩ = some (.int .i64 (x : Int))) ∧ Below w.heap.size w w') (first | exact ⟨⟨p0, p1⟩, hB.drew⟩ | assumption | exact step_heldC hb1 (by assumption))
                (first
                  | (go_at_call 115; refine (A1.out _ _ (by omega)).mono ?_; rintro e w' ⟨rfl, hb1⟩)
                  | (go_at_call 115; refine (A2.out _ _ (by omega)).mono ?_; rintro e w' ⟨rfl, hb1⟩)
                  | (go_at_call 115; refine (A3.out _ _ (by omega)).mono ?_; rintro e w' ⟨rfl, hb1⟩)
                  | fail)
              obtain ⟨⟨y0, y1⟩, hB3⟩ := (‹(_ ∧ _) ∧ Below _ _ _›)
              go_wp2
              go_ret
              exact ⟨by rw [H.out]; rfl, hB3⟩
          · have H := HF (by simp [ev1])
            have nv1 : ((v1 : Int) != (b : Int)) = true := by simp; omega
            clear HN HF hu ev1
            go_wp2
            go_region_held3 (fun w' => (w'.cell? ⟨w.heap.size, 0, none⟩ = some (.int .i64 3) ∧ w'.cell? ⟨w.heap.size, 1, none⟩ = some (.int .i64 (x : Int))) ∧ Below w.heap.size w w') (first | exact ⟨⟨p0, p1⟩, hB.drew⟩ | assumption | exact step_heldC hb1 (by assumption))
              (first
                | (go_at_call 115; refine (A1.out _ _ (by omega)).mono ?_; rintro e w' ⟨rfl, hb1⟩)
                | (go_at_call 115; refine (A2.out _ _ (by omega)).mono ?_; rintro e w' ⟨rfl, hb1⟩)
                | (go_at_call 115; refine (A3.out _ _ (by omega)).mono ?_; rintro e w' ⟨rfl, hb1⟩)
                | fail)
            obtain ⟨⟨y0, y1⟩, hB3⟩ := (‹(_ ∧ _) ∧ Below _ _ _›)
            go_wp2
            go_ret
            exact ⟨by rw [H.out]; rfl, hB3⟩
        · obtain rfl : b = 2 := by omega
          have H1 := Lib.hid (show knA 1 x (a + 1) = true by rw [knA_succ, hm.out, hu.out]; rfl)
          go_wp2
          go_roundw
          case rel => exact ⟨a + 1, by omega, by go_num, H1, ⟨p0, p1⟩, hB⟩
          case measure => simp [intOf]; omega
    · obtain rfl : a = 2 := by omega
      have H1 := hm.out
      go_wp2
      go_ret
      exact ⟨by rw [H1]; rfl, hB⟩

set_option maxRecDepth 100000 in
set_option maxHeartbeats 4000000 in
theorem l10Kind_2 {x : Nat} (ok : FOk 3 x 8) (w : World) :
    Calls Try.prog 146 #[.agg #[.int .i64 3, .int .i64 (x : Int)], .int .i64 2] w fun e w' => e = .returned (.bool (knA 2 x 2)) ∧ Below w.heap.size w w' := by
  obtain ⟨W1, hW1⟩ : ∃ W1, w.alloc (.cells #[.int .i64 3, .int .i64 (x : Int)] 25) = W1 := ⟨_, rfl⟩
  have p0 : W1.cell? ⟨w.heap.size, 0, none⟩ = some (.int .i64 3) := by rw [← hW1]; simp [go_sem]
  have p1 : W1.cell? ⟨w.heap.size, 1, none⟩ = some (.int .i64 (x : Int)) := by rw [← hW1]; simp [go_sem]
  have hB : Below w.heap.size w W1 := by rw [← hW1]; exact bnew _ _
  go_enter Try.func146, Try.ntmps146
  go_wp2
  clear hW1
  go_loopw [5] (fun i' wr => ∃ a : Nat, a ≤ 2 ∧ i' = .int .i64 a ∧ Hid (knA 2 x a = true) ∧ ((wr.cell? ⟨w.heap.size, 0, none⟩ = some (.int .i64 3) ∧ wr.cell? ⟨w.heap.size, 1, none⟩ = some (.int .i64 (x : Int))) ∧ Below w.heap.size w wr)) (fun i' _ => 2 - (intOf i').toNat)
  case atStart => exact ⟨0, by omega, rfl, Lib.hid rfl, ⟨p0, p1⟩, hB⟩
  case round =>
    clear p0 p1 hB
    obtain ⟨a, ha, rfl, hm, ⟨p0, p1⟩, hB⟩ := hrel
    obtain ⟨wo, rfl⟩ : ∃ wo : World, wo = wr := ⟨_, rfl⟩
    by_cases hlt : a < 2
    · have l1 : decide ((a : Int) < 2) = true := decide_eq_true (by omega)
      go_wp2
      go_loopw [6] (fun v' wr => ∃ b : Nat, b ≤ 2 ∧ v' = .int .i64 b ∧ Hid (knI 2 x a b = true) ∧ ((wr.cell? ⟨w.heap.size, 0, none⟩ = some (.int .i64 3) ∧ wr.cell? ⟨w.heap.size, 1, none⟩ = some (.int .i64 (x : Int))) ∧ Below w.heap.size w wr)) (fun v' _ => 2 - (intOf v').toNat)
      case atStart => exact ⟨0, by omega, rfl, Lib.hid rfl, ⟨p0, p1⟩, hB⟩
      case round =>
        clear p0 p1 hB
        obtain ⟨b, hb, rfl, hu, ⟨p0, p1⟩, hB⟩ := hrel
        by_cases hltb : b < 2
        · have l2 : decide ((b : Int) < 2) = true := decide_eq_true (by omega)
          have A1 := Lib.hid (l01At_to (n := 3) (x := x) (k := a + 2 * a + 4 * b) ok.hx (by omega))
          have A2 := Lib.hid (l01At_to (n := 3) (x := x) (k := a + 2 * b + 4 * a) ok.hx (by omega))
          have A3 := Lib.hid (l01At_to (n := 3) (x := x) (k := b + 2 * a + 4 * a) ok.hx (by omega))
          have HN := fun (h : knP 2 x a b = true) => Lib.hid (show knI 2 x a (b + 1) = true by rw [knI_succ, hu.out, h]; rfl)
          have HF := fun (h : knP 2 x a b = false) => Lib.hid (knA_false hlt hltb h)
          unfold knP at HN HF
          have w1 : IntKind.i64.wrap (2 * (a : Int)) = 2 * (a : Int) := wrap64_in (by omega) (by omega)
          have w2 : IntKind.i64.wrap (2 * (b : Int)) = 2 * (b : Int) := wrap64_in (by omega) (by omega)
          have w3 : IntKind.i64.wrap (4 * (a : Int)) = 4 * (a : Int) := wrap64_in (by omega) (by omega)
          have w4 : IntKind.i64.wrap (4 * (b : Int)) = 4 * (b : Int) := wrap64_in (by omega) (by omega)
          have w5 : IntKind.i64.wrap ((a : Int) + 2 * (a : Int)) = (a : Int) + 2 * (a : Int) := wrap64_in (by omega) (by omega)
          have w6 : IntKind.i64.wrap ((a : Int) + 2 * (b : Int)) = (a : Int) + 2 * (b : Int) := wrap64_in (by omega) (by omega)
          have w7 : IntKind.i64.wrap ((b : Int) + 2 * (a : Int)) = (b : Int) + 2 * (a : Int) := wrap64_in (by omega) (by omega)
          have w8 : IntKind.i64.wrap ((a : Int) + 2 * (a : Int) + 4 * (b : Int)) = (a : Int) + 2 * (a : Int) + 4 * (b : Int) := wrap64_in (by omega) (by omega)
          have w9 : IntKind.i64.wrap ((a : Int) + 2 * (b : Int) + 4 * (a : Int)) = (a : Int) + 2 * (b : Int) + 4 * (a : Int) := wrap64_in (by omega) (by omega)
          have w10 : IntKind.i64.wrap ((b : Int) + 2 * (a : Int) + 4 * (a : Int)) = (b : Int) + 2 * (a : Int) + 4 * (a : Int) := wrap64_in (by omega) (by omega)
          generalize bitN x (a + 2 * a + 4 * b) = v1 at A1 HN HF
          generalize bitN x (a + 2 * b + 4 * a) = v2 at A2 HN HF
          generalize bitN x (b + 2 * a + 4 * a) = v3 at A3 HN HF
          by_cases ev3 : v3 = b
          · by_cases ev1 : v1 = b
            · have H := HN (by simp [ev3, ev1])
              have nv3 : ((v3 : Int) != (b : Int)) = false := by simp [ev3]
              have nv1 : ((v1 : Int) != (b : Int)) = false := by simp [ev1]
              clear HN HF hu ev3 ev1
              go_wp2
              go_region_held3 (fun w' => (w'.cell? ⟨w.heap.size, 0, none⟩ = some (.int .i64 3) ∧ w'.cell? ⟨w.heap.size, 1, none⟩ = some (.int .i64 (x : Int))) ∧ Below w.heap.size w w') (first | exact ⟨⟨p0, p1⟩, hB.drew⟩ | assumption | exact step_heldC hb1 (by assumption))
                (first
                  | (go_at_call 115; refine (A1.out _ _ (by omega)).mono ?_; rintro e w' ⟨rfl, hb1⟩)
                  | (go_at_call 115; refine (A2.out _ _ (by omega)).mono ?_; rintro e w' ⟨rfl, hb1⟩)
                  | (go_at_call 115; refine (A3.out _ _ (by omega)).mono ?_; rintro e w' ⟨rfl, hb1⟩)
                  | fail)
              obtain ⟨⟨y0, y1⟩, hB3⟩ := (‹(_ ∧ _) ∧ Below _ _ _›)
              go_wp2
              go_roundw
              case rel => exact ⟨b + 1, by omega, by go_num, H, ⟨y0, y1⟩, hB3⟩
              case measure => simp [intOf]; omega
            · have H := HF (by simp [ev3, ev1])
              have nv3 : ((v3 : Int) != (b : Int)) = false := by simp [ev3]
              have nv1 : ((v1 : Int) != (b : Int)) = true := by simp; omega
              clear HN HF hu ev3 ev1
              go_wp2
              go_region_held3 (fun w' => (w'.cell? ⟨w.heap.size, 0, none⟩ = some (.int .i64 3) ∧ w'.cell? ⟨w.heap.size, 1, none⟩ = some (.int .i64 (x : Int))) ∧ Below w.heap.size w w') (first | exact ⟨⟨p0, p1⟩, hB.drew⟩ | assumption | exact step_heldC hb1 (by assumption))
                (first
                  | (go_at_call 115; refine (A1.out _ _ (by omega)).mono ?_; rintro e w' ⟨rfl, hb1⟩)
                  | (go_at_call 115; refine (A2.out _ _ (by omega)).mono ?_; rintro e w' ⟨rfl, hb1⟩)
                  | (go_at_call 115; refine (A3.out _ _ (by omega)).mono ?_; rintro e w' ⟨rfl, hb1⟩)
                  | fail)
              obtain ⟨⟨y0, y1⟩, hB3⟩ := (‹(_ ∧ _) ∧ Below _ _ _›)
              go_wp2
              go_ret
              exact ⟨by rw [H.out]; rfl, hB3⟩
          · have H := HF (by simp [ev3])
            have nv3 : ((v3 : Int) != (b : Int)) = true := by simp; omega
            clear HN HF hu ev3
            go_wp2
            go_region_held3 (fun w' => (w'.cell? ⟨w.heap.size, 0, none⟩ = some (.int .i64 3) ∧ w'.cell? ⟨w.heap.size, 1, none⟩ = some (.int .i64 (x : Int))) ∧ Below w.heap.size w w') (first | exact ⟨⟨p0, p1⟩, hB.drew⟩ | assumption | exact step_heldC hb1 (by assumption))
              (first
                | (go_at_call 115; refine (A1.out _ _ (by omega)).mono ?_; rintro e w' ⟨rfl, hb1⟩)
                | (go_at_call 115; refine (A2.out _ _ (by omega)).mono ?_; rintro e w' ⟨rfl, hb1⟩)
                | (go_at_call 115; refine (A3.out _ _ (by omega)).mono ?_; rintro e w' ⟨rfl, hb1⟩)
                | fail)
            obtain ⟨⟨y0, y1⟩, hB3⟩ := (‹(_ ∧ _) ∧ Below _ _ _›)
            go_wp2
            go_ret
            exact ⟨by rw [H.out]; rfl, hB3⟩
        · obtain rfl : b = 2 := by omega
          have H1 := Lib.hid (show knA 2 x (a + 1) = true by rw [knA_succ, hm.out, hu.out]; rfl)
          go_wp2
          go_roundw
          case rel => exact ⟨a + 1, by omega, by go_num, H1, ⟨p0, p1⟩, hB⟩
          case measure => simp [intOf]; omega
    · obtain rfl : a = 2 := by omega
      have H1 := hm.out
      go_wp2
      go_ret
      exact ⟨by rw [H1]; rfl, hB⟩

end Go.Proofs.Ytbdhlokbpbiijaa

/- ID9:
  IsOfKind in both packages. -/
namespace Go.Proofs.Ytbdhlokbpbiijaa
open Go.RowKit Go.Shelf
set_option linter.unusedVariables false
set_option linter.unusedSimpArgs false

/-- The code of one function and a kind. -/
def kcF (n b k : Int) : Int := if isF n b = true then (if inB k 0 3 = true then 0 else 2) else 1

set_option maxRecDepth 100000 in
set_option maxHeartbeats 4000000 in
theorem l10Code_one (k n b : Int) (g cap : Nat) (w : World) (c0 : w.cell? ⟨g, 0, none⟩ = some (.int .i64 n)) (c1 : w.cell? ⟨g, 1, none⟩ = some (.int .i64 b)) :
    Calls Try.prog 145 #[.int .i64 k, .slice (some ⟨g, 0, none⟩) 1 cap] w fun e w' => e = .returned (.int .i64 (kcF n b k)) ∧ Below w.heap.size w w' := by
  unfold kcF
  cases hf : isF n b
  · rw [if_neg (by decide)]
    go_enter Try.func145, Try.ntmps145
    go_wp2
    refine wp_loop_rounds 1 ?_
    rw [rounds_succ]
    go_wp2_with (go_at_call 88; refine (l01Is_is hf _).mono ?_; rintro e w2 ⟨rfl, hb2⟩)
    go_ret
    exact ⟨rfl, hb2⟩
  · rw [if_pos rfl]
    go_enter Try.func145, Try.ntmps145
    go_wp2
    go_loopw [5] (fun i' wr => ∃ i : Nat, i ≤ 1 ∧ i' = .int .i64 i ∧ (wr.cell? ⟨g, 0, none⟩ = some (.int .i64 n) ∧ wr.cell? ⟨g, 1, none⟩ = some (.int .i64 b)) ∧ Below w.heap.size w wr) (fun i' _ => 1 - (intOf i').toNat)
    case atStart => exact ⟨0, by omega, rfl, ⟨c0, c1⟩, Below.refl _ _⟩
    case round =>
      clear c0 c1
      obtain ⟨i, hi, rfl, ⟨c0, c1⟩, hB⟩ := hrel
      rcases (show i = 0 ∨ i = 1 by omega) with rfl | rfl
      · go_wp2_with (go_at_call 88; refine (l01Is_is hf _).mono ?_; rintro e w2 ⟨rfl, hb2⟩; have d0 := kc hb2 c0; have d1 := kc hb2 c1)
        go_roundw
        case rel => exact ⟨1, by omega, by go_num, ⟨d0, d1⟩, bthen hB hb2⟩
        case measure => simp [intOf]
      · cases hk : inB k 0 3
        · go_wp2_with (go_at_call 105; refine (l01In_is hk _).mono ?_; rintro e w' ⟨rfl, rfl⟩)
          all_goals go_ret
          all_goals exact ⟨rfl, hB⟩
        · go_wp2_with (go_at_call 105; refine (l01In_is hk _).mono ?_; rintro e w' ⟨rfl, rfl⟩)
          go_ret
          exact ⟨rfl, hB⟩

set_option maxRecDepth 100000 in
set_option maxHeartbeats 4000000 in
theorem specIsOfKind_no {n b k c : Int} (hc : kcF n b k = c) (h0 : c ≠ 0) (w : World) :
    Calls Try.prog 53 #[.agg #[.int .i64 n, .int .i64 b], .int .i64 k] w fun e w' => e = .returned (.tuple #[.bool false, .int .i64 c]) ∧ Below w.heap.size w w' := by
  obtain ⟨W1, hW1⟩ : ∃ W1, w.alloc (.cells #[.int .i64 n, .int .i64 b] 25) = W1 := ⟨_, rfl⟩
  have p0 : W1.cell? ⟨w.heap.size, 0, none⟩ = some (.int .i64 n) := by rw [← hW1]; simp [go_sem]
  have p1 : W1.cell? ⟨w.heap.size, 1, none⟩ = some (.int .i64 b) := by rw [← hW1]; simp [go_sem]
  have hB : Below w.heap.size w W1 := by rw [← hW1]; exact bnew _ _
  have hne : (c != 0) = true := by simpa using h0
  have CD := Lib.hid (hc ▸ l10Code_one k n b W1.heap.size 1 (W1.alloc (.cells #[.int .i64 n, .int .i64 b] 25)) (by simp [go_sem]) (by simp [go_sem]))
  clear hc h0
  go_enter Try.func53, Try.ntmps53
  go_wp2_with (go_at_call 145; refine (CD.out).mono ?_; rintro e w2 ⟨rfl, hb2⟩)
  go_ret2
  exact ⟨rfl, bthen (balloc hB _) hb2⟩

set_option maxRecDepth 100000 in
set_option maxHeartbeats 4000000 in
theorem specIsOfKind_yes {n : Int} {x R : Nat} (ok : FOk n x R) {k : Nat} (hc : kcF n (x : Int) (k : Int) = 0) {v : Bool} (hv : ∀ w, Calls Try.prog 146 #[.agg #[.int .i64 n, .int .i64 (x : Int)], .int .i64 (k : Int)] w fun e w' => e = .returned (.bool v) ∧ Below w.heap.size w w') (w : World) :
    Calls Try.prog 53 #[.agg #[.int .i64 n, .int .i64 (x : Int)], .int .i64 (k : Int)] w fun e w' => e = .returned (.tuple #[.bool v, .int .i64 0]) ∧ Below w.heap.size w w' := by
  obtain ⟨W1, hW1⟩ : ∃ W1, w.alloc (.cells #[.int .i64 n, .int .i64 (x : Int)] 25) = W1 := ⟨_, rfl⟩
  have p0 : W1.cell? ⟨w.heap.size, 0, none⟩ = some (.int .i64 n) := by rw [← hW1]; simp [go_sem]
  have p1 : W1.cell? ⟨w.heap.size, 1, none⟩ = some (.int .i64 (x : Int)) := by rw [← hW1]; simp [go_sem]
  have hB : Below w.heap.size w W1 := by rw [← hW1]; exact bnew _ _
  have HV := Lib.hid hv
  have CD := Lib.hid (hc ▸ l10Code_one (k : Int) n (x : Int) W1.heap.size 1 (W1.alloc (.cells #[.int .i64 n, .int .i64 (x : Int)] 25)) (by simp [go_sem]) (by simp [go_sem]))
  have hB1 := balloc hB (.cells #[.int .i64 n, .int .i64 (x : Int)] 25)
  clear hc hv
  go_enter Try.func53, Try.ntmps53
  go_wp2_with (first
    | (go_at_call 145; refine (CD.out).mono ?_; rintro e w2 ⟨rfl, hb2⟩; have q0 := kc (bthen (bnew _ _) hb2) p0; have q1 := kc (bthen (bnew _ _) hb2) p1; have hB2 := bthen hB1 hb2)
    | (go_at_call 146; refine (HV.out _).mono ?_; rintro e w3 ⟨rfl, hb3⟩))
  go_ret2
  exact ⟨rfl, bthen hB2 hb3⟩

set_option maxRecDepth 100000 in
set_option maxHeartbeats 4000000 in
theorem isKind_any (k : Int) (w : World) :
    Calls Try.prog 143 #[.int .i64 k] w fun e w' => e = .returned (.bool (inB k 0 3)) ∧ w = w' := by
  by_cases h1 : 0 ≤ k
  · by_cases h2 : k ≤ 3
    · rw [inB_true h1 h2]
      have h3 : decide (k < 4) = true := decide_eq_true (by omega)
      go_enter Try.func143, Try.ntmps143
      go_wp2
      go_ret
      exact ⟨rfl, rfl⟩
    · rw [inB_false (by omega)]
      have h3 : decide (k < 4) = false := decide_eq_false (by omega)
      go_enter Try.func143, Try.ntmps143
      go_wp2
      go_ret
      exact ⟨rfl, rfl⟩
  · rw [inB_false (by omega)]
    go_enter Try.func143, Try.ntmps143
    go_wp2
    go_ret
    exact ⟨rfl, rfl⟩
theorem isKind_is {k : Int} {x : Bool} (h : inB k 0 3 = x) (w : World) :
    Calls Try.prog 143 #[.int .i64 k] w fun e w' => e = .returned (.bool x) ∧ w = w' := h ▸ isKind_any k w

set_option maxRecDepth 100000 in
set_option maxHeartbeats 4000000 in
theorem implIsOfKind_no {n b : Int} (h : isF n b = false) (k : Int) (w : World) :
    Calls Try.prog 52 #[.agg #[.int .i64 n, .int .i64 b], .int .i64 k] w fun e w' => e = .returned (.tuple #[.bool false, .int .i64 1]) ∧ Below w.heap.size w w' := by
  go_enter Try.func52, Try.ntmps52
  go_wp2_with (go_at_call 85; refine (IsFunc_is h _).mono ?_; rintro e w2 ⟨rfl, hb2⟩)
  go_ret2
  exact ⟨rfl, bthen (bnew _ _) hb2⟩

set_option maxRecDepth 100000 in
set_option maxHeartbeats 4000000 in
theorem implIsOfKind_range {n b : Int} (h : isF n b = true) {k : Int} (hk : inB k 0 3 = false) (w : World) :
    Calls Try.prog 52 #[.agg #[.int .i64 n, .int .i64 b], .int .i64 k] w fun e w' => e = .returned (.tuple #[.bool false, .int .i64 2]) ∧ Below w.heap.size w w' := by
  go_enter Try.func52, Try.ntmps52
  go_wp2_with (first
    | (go_at_call 85; refine (IsFunc_is h _).mono ?_; rintro e w2 ⟨rfl, hb2⟩)
    | (go_at_call 143; refine (isKind_is hk _).mono ?_; rintro e w' ⟨rfl, rfl⟩))
  go_ret2
  exact ⟨rfl, bthen (bnew _ _) hb2⟩

set_option maxRecDepth 100000 in
set_option maxHeartbeats 4000000 in
theorem implIsOfKind_yes {n : Int} {x R : Nat} (ok : FOk n x R) {k : Nat} (hk4 : k < 4) (w : World) :
    Calls Try.prog 52 #[.agg #[.int .i64 n, .int .i64 (x : Int)], .int .i64 (k : Int)] w fun e w' => e = .returned (.tuple #[.bool (kdB n x R k), .int .i64 0]) ∧ Below w.heap.size w w' := by
  have h := ok.is
  have hk : inB (k : Int) 0 3 = true := inB_true (by omega) (by omega)
  have KD := Lib.hid (fun W => isOfKind_any ok k hk4 W)
  generalize kdB n x R k = kb at KD ⊢
  obtain ⟨W1, hW1⟩ : ∃ W1, w.alloc (.cells #[.int .i64 n, .int .i64 (x : Int)] 25) = W1 := ⟨_, rfl⟩
  have p0 : W1.cell? ⟨w.heap.size, 0, none⟩ = some (.int .i64 n) := by rw [← hW1]; simp [go_sem]
  have p1 : W1.cell? ⟨w.heap.size, 1, none⟩ = some (.int .i64 (x : Int)) := by rw [← hW1]; simp [go_sem]
  have hB : Below w.heap.size w W1 := by rw [← hW1]; exact bnew _ _
  go_enter Try.func52, Try.ntmps52
  go_wp2_with (first
    | (go_at_call 85; refine (IsFunc_is h _).mono ?_; rintro e w2 ⟨rfl, hb2⟩; have q0 := kc hb2 p0; have q1 := kc hb2 p1; have hB2 := bthen hB hb2; clear p0 p1)
    | (go_at_call 143; refine (isKind_is hk _).mono ?_; rintro e w' ⟨rfl, rfl⟩)
    | (go_at_call 144; refine (KD.out _).mono ?_; rintro e w3 ⟨rfl, hb3⟩))
  go_ret2
  exact ⟨rfl, bthen hB2 hb3⟩

theorem l10Kind_any {n : Int} {x R : Nat} (ok : FOk n x R) (k : Nat) (hk : k < 4) (w : World) :
    Calls Try.prog 146 #[.agg #[.int .i64 n, .int .i64 (x : Int)], .int .i64 (k : Int)] w fun e w' => e = .returned (.bool (kdB n x R k)) ∧ Below w.heap.size w w' := by
  by_cases hn : n = 3
  · subst hn
    obtain rfl : R = 8 := by rw [ok.he]; rfl
    have hx : x < 256 := ok.hB
    rcases (show k = 0 ∨ k = 1 ∨ k = 2 ∨ k = 3 by omega) with rfl | rfl | rfl | rfl
    · rw [kdB_kn (by decide) hx]; exact l10Kind_0 ok w
    · rw [kdB_kn (by decide) hx]; exact l10Kind_1 ok w
    · rw [kdB_kn (by decide) hx]; exact l10Kind_2 ok w
    · exact l10Kind_3 ok w
  · rw [kdB_other hn]
    exact l10Kind_other ok hn _ w
theorem bothIsOfKind (n b k : Int) (_ : (Lit.int .i64 n).wf = true) (_ : (Lit.int .i64 b).wf = true) (_ : (Lit.int .i64 k).wf = true) : ∃ (rx : Bool) (rc : Int),
    (∀ w, Calls Try.prog 53 #[.agg #[.int .i64 n, .int .i64 b], .int .i64 k] w fun e w' => e = .returned (.tuple #[.bool rx, .int .i64 rc]) ∧ Below w.heap.size w w') ∧
    (∀ w, Calls Try.prog 52 #[.agg #[.int .i64 n, .int .i64 b], .int .i64 k] w fun e w' => e = .returned (.tuple #[.bool rx, .int .i64 rc]) ∧ Below w.heap.size w w') := by
  cases h : isF n b
  · exact ⟨_, _, specIsOfKind_no (c := 1) (by unfold kcF; rw [h]; rfl) (by decide), implIsOfKind_no h k⟩
  · cases hk : inB k 0 3
    · exact ⟨_, _, specIsOfKind_no (c := 2) (by unfold kcF; rw [h, hk]; rfl) (by decide), implIsOfKind_range h hk⟩
    · have hk2 : 0 ≤ k ∧ k ≤ 3 := by simpa [inB] using hk
      obtain ⟨j, rfl⟩ := Int.eq_ofNat_of_zero_le hk2.1
      obtain ⟨x, R, rfl, ok⟩ := fok h
      exact ⟨_, _, specIsOfKind_yes ok (by unfold kcF; rw [h, hk]; rfl) (l10Kind_any ok j (by omega)), implIsOfKind_yes ok (by omega)⟩
end Go.Proofs.Ytbdhlokbpbiijaa

/- ID7:
  IsSemilattice in both packages. -/
namespace Go.Proofs.Ytbdhlokbpbiijaa
open Go.RowKit Go.Shelf
set_option linter.unusedVariables false
set_option linter.unusedSimpArgs false

/-- A semilattice: of two arguments, idempotent and symmetric. -/
def slB (n : Int) (x R : Nat) : Bool := (n == 2) && (idB x R && symB x R)
theorem sl_two : ∀ x, x < 16 → idB x 4 = true → bitN x 1 = bitN x 2 → x = 8 ∨ x = 14 := by decide +kernel
theorem sl_dif : ∀ x, x < 16 → bitN x 1 ≠ bitN x 2 → symB x 4 = false := by decide +kernel
theorem sl_yes : slB 2 8 4 = true ∧ slB 2 14 4 = true := by decide +kernel
theorem slB_other {n : Int} (h : n ≠ 2) (x R : Nat) : slB n x R = false := by
  unfold slB
  have : (n == 2) = false := by simpa using h
  rw [this]; rfl
theorem slB_idem {n : Int} {x R : Nat} (h : idB x R = false) : slB n x R = false := by unfold slB; rw [h]; cases n == 2 <;> rfl
theorem slB_sym {n : Int} {x R : Nat} (h : symB x R = false) : slB n x R = false := by unfold slB; rw [h]; cases n == 2 <;> cases idB x R <;> rfl

set_option maxHeartbeats 1000000 in
theorem implIsSemilattice_no {n b : Int} (h : isF n b = false) (w : World) :
    Calls Try.prog 59 #[.agg #[.int .i64 n, .int .i64 b]] w fun e w' => e = .returned (.tuple #[.bool false, .int .i64 1]) ∧ Below w.heap.size w w' := by
  go_enter Try.func59, Try.ntmps59
  go_wp2_with (go_at_call 85; refine (IsFunc_is h _).mono ?_; rintro e w2 ⟨rfl, hb2⟩)
  go_ret2
  exact ⟨rfl, bthen (bnew _ _) hb2⟩

set_option maxHeartbeats 1000000 in
theorem specIsSemilattice_no {n b : Int} (h : isF n b = false) (w : World) :
    Calls Try.prog 60 #[.agg #[.int .i64 n, .int .i64 b]] w fun e w' => e = .returned (.tuple #[.bool false, .int .i64 1]) ∧ Below w.heap.size w w' := by
  go_enter Try.func60, Try.ntmps60
  go_wp2_with (go_at_call 88; refine (l01Is_is h _).mono ?_; rintro e w2 ⟨rfl, hb2⟩)
  go_ret2
  exact ⟨rfl, bthen (bnew _ _) hb2⟩

set_option maxRecDepth 100000 in
set_option maxHeartbeats 4000000 in
theorem implIsSemilattice_yes {n : Int} {x R : Nat} (ok : FOk n x R) (w : World) :
    Calls Try.prog 59 #[.agg #[.int .i64 n, .int .i64 (x : Int)]] w fun e w' => e = .returned (.tuple #[.bool (slB n x R), .int .i64 0]) ∧ Below w.heap.size w w' := by
  have h := ok.is
  have IS := Lib.hid (fun W => isIdempotentAndSymmetric_any ok W)
  obtain ⟨W1, hW1⟩ : ∃ W1, w.alloc (.cells #[.int .i64 n, .int .i64 (x : Int)] 25) = W1 := ⟨_, rfl⟩
  have p0 : W1.cell? ⟨w.heap.size, 0, none⟩ = some (.int .i64 n) := by rw [← hW1]; simp [go_sem]
  have p1 : W1.cell? ⟨w.heap.size, 1, none⟩ = some (.int .i64 (x : Int)) := by rw [← hW1]; simp [go_sem]
  have hB : Below w.heap.size w W1 := by rw [← hW1]; exact bnew _ _
  unfold slB
  generalize (idB x R && symB x R) = jb at IS ⊢
  cases hn : (n == 2)
  · go_enter Try.func59, Try.ntmps59
    go_wp2_with (go_at_call 85; refine (IsFunc_is h _).mono ?_; rintro e w2 ⟨rfl, hb2⟩; have d0 := kc hb2 p0; have d1 := kc hb2 p1)
    exact bodyPost_ret (v := .tuple #[.bool false, .int .i64 0]) (by simp [results, Try.results59, go_sem]) rfl ⟨rfl, bthen hB hb2⟩
  · go_enter Try.func59, Try.ntmps59
    go_wp2_with (first
      | (go_at_call 85; refine (IsFunc_is h _).mono ?_; rintro e w2 ⟨rfl, hb2⟩; have d0 := kc hb2 p0; have d1 := kc hb2 p1)
      | (go_at_call 151; refine (IS.out _).mono ?_; rintro e w3 ⟨rfl, hb3⟩))
    exact bodyPost_ret (v := .tuple #[.bool jb, .int .i64 0]) (by simp [results, Try.results59, go_sem]) rfl ⟨rfl, bthen (bthen hB hb2) hb3⟩

set_option maxRecDepth 100000 in
set_option maxHeartbeats 4000000 in
theorem specIsSemilattice_other {n : Int} {x R : Nat} (ok : FOk n x R) (hn : n ≠ 2) (w : World) :
    Calls Try.prog 60 #[.agg #[.int .i64 n, .int .i64 (x : Int)]] w fun e w' => e = .returned (.tuple #[.bool false, .int .i64 0]) ∧ Below w.heap.size w w' := by
  have h := ok.is
  have hne : (n != 2) = true := by simpa using hn
  obtain ⟨W1, hW1⟩ : ∃ W1, w.alloc (.cells #[.int .i64 n, .int .i64 (x : Int)] 25) = W1 := ⟨_, rfl⟩
  have p0 : W1.cell? ⟨w.heap.size, 0, none⟩ = some (.int .i64 n) := by rw [← hW1]; simp [go_sem]
  have p1 : W1.cell? ⟨w.heap.size, 1, none⟩ = some (.int .i64 (x : Int)) := by rw [← hW1]; simp [go_sem]
  have hB : Below w.heap.size w W1 := by rw [← hW1]; exact bnew _ _
  go_enter Try.func60, Try.ntmps60
  go_wp2_with (go_at_call 88; refine (l01Is_is h _).mono ?_; rintro e w2 ⟨rfl, hb2⟩; have d0 := kc hb2 p0; have d1 := kc hb2 p1; have hB2 := bthen hB hb2; clear p0 p1 hb2)
  go_quiet (fail)
  go_wp2
  go_ret2
  exact ⟨rfl, below_drewN hB2 _⟩

set_option maxRecDepth 100000 in
set_option maxHeartbeats 4000000 in
theorem specIsSemilattice_idem {x : Nat} (ok : FOk 2 x 4) (hi : idB x 4 = false) (w : World) :
    Calls Try.prog 60 #[.agg #[.int .i64 2, .int .i64 (x : Int)]] w fun e w' => e = .returned (.tuple #[.bool false, .int .i64 0]) ∧ Below w.heap.size w w' := by
  have h := ok.is
  have IM0 := fun W => l10Idem_any ok W
  rw [hi] at IM0
  have IM := Lib.hid IM0
  clear IM0 hi
  obtain ⟨W1, hW1⟩ : ∃ W1, w.alloc (.cells #[.int .i64 2, .int .i64 (x : Int)] 25) = W1 := ⟨_, rfl⟩
  have p0 : W1.cell? ⟨w.heap.size, 0, none⟩ = some (.int .i64 2) := by rw [← hW1]; simp [go_sem]
  have p1 : W1.cell? ⟨w.heap.size, 1, none⟩ = some (.int .i64 (x : Int)) := by rw [← hW1]; simp [go_sem]
  have hB : Below w.heap.size w W1 := by rw [← hW1]; exact bnew _ _
  go_enter Try.func60, Try.ntmps60
  go_wp2_with (go_at_call 88; refine (l01Is_is h _).mono ?_; rintro e w2 ⟨rfl, hb2⟩; have d0 := kc hb2 p0; have d1 := kc hb2 p1; have hB2 := bthen hB hb2; clear p0 p1 hb2)
  refine wp_region_held (S := fun w' => (w'.cell? ⟨w.heap.size, 0, none⟩ = some (.int .i64 2) ∧ w'.cell? ⟨w.heap.size, 1, none⟩ = some (.int .i64 (x : Int))) ∧ Below w.heap.size w w') (by kernel_rfl) ?_
  have hHeld : (fun w' => (w'.cell? ⟨w.heap.size, 0, none⟩ = some (.int .i64 2) ∧ w'.cell? ⟨w.heap.size, 1, none⟩ = some (.int .i64 (x : Int))) ∧ Below w.heap.size w w') (World.drew _) := ⟨⟨d0, d1⟩, hB2.drew⟩
  change wpAnyH _ _ _ _ _ _ _ _ (World.drew _)
  refine wpAnyH_take (i := 0) (v := ?_) rfl (by kernel_rfl) (by kernel_rfl) (by kernel_rfl) (fun _ _ _ h => h) (Or.inl ⟨by rfl, by intro w hSw; (try dsimp only at hSw); go_simp; try (with_reducible rfl)⟩) (by assumption) ?_
  try simp only [Act.put, List.setIfInBounds_toArray, List.set_cons_zero, List.set_cons_succ, List.getElem_toArray, List.getElem_cons_zero, List.getElem_cons_succ]
  refine wpAnyH_take (i := 1) (v := ?_) rfl (by kernel_rfl) (by kernel_rfl) (by kernel_rfl) (fun _ _ _ h => h) (Or.inl ⟨by rfl, by intro w hSw; (try dsimp only at hSw); go_simp; try (with_reducible rfl)⟩) (by assumption) ?_
  try simp only [Act.put, List.setIfInBounds_toArray, List.set_cons_zero, List.set_cons_succ, List.getElem_toArray, List.getElem_cons_zero, List.getElem_cons_succ]
  refine wpAnyH_take (i := 2) (v := ?_) rfl (by kernel_rfl) (by kernel_rfl) (by kernel_rfl) (fun _ _ _ h => h) (Or.inl ⟨by rfl, by intro w hSw; (try dsimp only at hSw); go_simp; try (with_reducible rfl)⟩) (by assumption) ?_
  try simp only [Act.put, List.setIfInBounds_toArray, List.set_cons_zero, List.set_cons_succ, List.getElem_toArray, List.getElem_cons_zero, List.getElem_cons_succ]
  refine wpAnyH_take (i := 3) (v := ?_) rfl (by kernel_rfl) (by kernel_rfl) (by kernel_rfl) (fun _ _ _ h => h) (Or.inl ⟨by rfl, by intro w hSw; (try dsimp only at hSw); go_simp; try (with_reducible rfl)⟩) (by assumption) ?_
  try simp only [Act.put, List.setIfInBounds_toArray, List.set_cons_zero, List.set_cons_succ, List.getElem_toArray, List.getElem_cons_zero, List.getElem_cons_succ]
  refine wpAnyH_take (i := 4) (v := ?_) rfl (by kernel_rfl) (by kernel_rfl) (by kernel_rfl) (fun _ _ _ h => h) (Or.inl ⟨by rfl, by intro w hSw; (try dsimp only at hSw); go_simp; try (with_reducible rfl)⟩) (by assumption) ?_
  try simp only [Act.put, List.setIfInBounds_toArray, List.set_cons_zero, List.set_cons_succ, List.getElem_toArray, List.getElem_cons_zero, List.getElem_cons_succ]
  refine wpAnyH_ready (rs := [5]) (by kernel_rfl) (by simp) ?_
  refine AllReadyH.cons rfl (fun K hK => ?_) AllReadyH.nil
  go_simp
  go_at_call 148
  refine (IM.out _).mono ?_
  rintro e w2 ⟨rfl, hb1⟩
  refine hK _ _ (step_heldC hb1 hHeld) (fun hHeld => ?_)
  clear hK K
  try simp only [Act.put, List.setIfInBounds_toArray, List.set_cons_zero, List.set_cons_succ, List.getElem_toArray, List.getElem_cons_zero, List.getElem_cons_succ]
  refine wpAnyH_take (i := 6) (v := ?_) rfl (by kernel_rfl) (by kernel_rfl) (by kernel_rfl) (fun _ _ _ h => h) (Or.inl ⟨by rfl, by intro w hSw; (try dsimp only at hSw); go_simp; try (with_reducible rfl)⟩) (by assumption) ?_
  try simp only [Act.put, List.setIfInBounds_toArray, List.set_cons_zero, List.set_cons_succ, List.getElem_toArray, List.getElem_cons_zero, List.getElem_cons_succ]
  refine wpAnyH_take (i := 7) (v := ?_) rfl (by kernel_rfl) (by kernel_rfl) (by kernel_rfl) (fun _ _ _ h => h) (Or.inl ⟨by rfl, by intro w hSw; (try dsimp only at hSw); go_simp; try (with_reducible rfl)⟩) (by assumption) ?_
  try simp only [Act.put, List.setIfInBounds_toArray, List.set_cons_zero, List.set_cons_succ, List.getElem_toArray, List.getElem_cons_zero, List.getElem_cons_succ]
  refine wpAnyH_take (i := 8) (v := ?_) rfl (by kernel_rfl) (by kernel_rfl) (by kernel_rfl) (fun _ _ _ h => h) (Or.inl ⟨by rfl, by intro w hSw; (try dsimp only at hSw); go_simp; try (with_reducible rfl)⟩) (by assumption) ?_
  try simp only [Act.put, List.setIfInBounds_toArray, List.set_cons_zero, List.set_cons_succ, List.getElem_toArray, List.getElem_cons_zero, List.getElem_cons_succ]
  refine wpAnyH_take (i := 9) (v := undef) rfl (by kernel_rfl) (by kernel_rfl) (by kernel_rfl) (fun _ _ _ h => h) (Or.inr ⟨by rfl, rfl⟩) (by assumption) ?_
  try simp only [Act.put, List.setIfInBounds_toArray, List.set_cons_zero, List.set_cons_succ, List.getElem_toArray, List.getElem_cons_zero, List.getElem_cons_succ]
  refine wpAnyH_take (i := 10) (v := undef) rfl (by kernel_rfl) (by kernel_rfl) (by kernel_rfl) (fun _ _ _ h => h) (Or.inr ⟨by rfl, rfl⟩) (by assumption) ?_
  try simp only [Act.put, List.setIfInBounds_toArray, List.set_cons_zero, List.set_cons_succ, List.getElem_toArray, List.getElem_cons_zero, List.getElem_cons_succ]
  refine wpAnyH_take (i := 11) (v := undef) rfl (by kernel_rfl) (by kernel_rfl) (by kernel_rfl) (fun _ _ _ h => h) (Or.inr ⟨by rfl, rfl⟩) (by assumption) ?_
  try simp only [Act.put, List.setIfInBounds_toArray, List.set_cons_zero, List.set_cons_succ, List.getElem_toArray, List.getElem_cons_zero, List.getElem_cons_succ]
  refine wpAnyH_take (i := 12) (v := undef) rfl (by kernel_rfl) (by kernel_rfl) (by kernel_rfl) (fun _ _ _ h => h) (Or.inr ⟨by rfl, rfl⟩) (by assumption) ?_
  try simp only [Act.put, List.setIfInBounds_toArray, List.set_cons_zero, List.set_cons_succ, List.getElem_toArray, List.getElem_cons_zero, List.getElem_cons_succ]
  refine wpAnyH_take (i := 13) (v := undef) rfl (by kernel_rfl) (by kernel_rfl) (by kernel_rfl) (fun _ _ _ h => h) (Or.inr ⟨by rfl, rfl⟩) (by assumption) ?_
  try simp only [Act.put, List.setIfInBounds_toArray, List.set_cons_zero, List.set_cons_succ, List.getElem_toArray, List.getElem_cons_zero, List.getElem_cons_succ]
  refine wpAnyH_take (i := 14) (v := ?_) rfl (by kernel_rfl) (by kernel_rfl) (by kernel_rfl) (fun _ _ _ h => h) (Or.inl ⟨by rfl, by intro w hSw; (try dsimp only at hSw); go_simp; try (with_reducible rfl)⟩) (by assumption) ?_
  try simp only [Act.put, List.setIfInBounds_toArray, List.set_cons_zero, List.set_cons_succ, List.getElem_toArray, List.getElem_cons_zero, List.getElem_cons_succ]
  refine wpAnyH_done (by kernel_rfl) ?_ _
  go_wp2
  go_ret2
  exact ⟨rfl, hHeld.2⟩

set_option maxRecDepth 100000 in
set_option maxHeartbeats 4000000 in
theorem specIsSemilattice_dif {x : Nat} (ok : FOk 2 x 4) (hi : idB x 4 = true) (hd : bitN x 1 ≠ bitN x 2) (w : World) :
    Calls Try.prog 60 #[.agg #[.int .i64 2, .int .i64 (x : Int)]] w fun e w' => e = .returned (.tuple #[.bool false, .int .i64 0]) ∧ Below w.heap.size w w' := by
  have h := ok.is
  have IM0 := fun W => l10Idem_any ok W
  rw [hi] at IM0
  have IM := Lib.hid IM0
  have A1 : Hid (∀ W, Calls Try.prog 115 #[.agg #[.int .i64 2, .int .i64 (x : Int)], .int .i64 1] W fun e W' => e = .returned (.int .i64 (bitN x 1 : Int)) ∧ Below W.heap.size W W') := Lib.hid (fun W => l01At_any 2 x 1 ok.hx (by decide) W)
  have A2 : Hid (∀ W, Calls Try.prog 115 #[.agg #[.int .i64 2, .int .i64 (x : Int)], .int .i64 2] W fun e W' => e = .returned (.int .i64 (bitN x 2 : Int)) ∧ Below W.heap.size W W') := Lib.hid (fun W => l01At_any 2 x 2 ok.hx (by decide) W)
  generalize bitN x 1 = v1 at A1 hd
  generalize bitN x 2 = v2 at A2 hd
  have hne : ((v1 : Int) != (v2 : Int)) = true := by simp; omega
  clear IM0 hi hd
  obtain ⟨W1, hW1⟩ : ∃ W1, w.alloc (.cells #[.int .i64 2, .int .i64 (x : Int)] 25) = W1 := ⟨_, rfl⟩
  have p0 : W1.cell? ⟨w.heap.size, 0, none⟩ = some (.int .i64 2) := by rw [← hW1]; simp [go_sem]
  have p1 : W1.cell? ⟨w.heap.size, 1, none⟩ = some (.int .i64 (x : Int)) := by rw [← hW1]; simp [go_sem]
  have hB : Below w.heap.size w W1 := by rw [← hW1]; exact bnew _ _
  go_enter Try.func60, Try.ntmps60
  go_wp2_with (go_at_call 88; refine (l01Is_is h _).mono ?_; rintro e w2 ⟨rfl, hb2⟩; have d0 := kc hb2 p0; have d1 := kc hb2 p1; have hB2 := bthen hB hb2; clear p0 p1 hb2)
  go_region_held3 (fun w' => (w'.cell? ⟨w.heap.size, 0, none⟩ = some (.int .i64 2) ∧ w'.cell? ⟨w.heap.size, 1, none⟩ = some (.int .i64 (x : Int))) ∧ Below w.heap.size w w') (first | exact ⟨⟨d0, d1⟩, hB2.drew⟩ | assumption | exact step_heldC hb1 (by assumption))
    (first
      | (go_at_call 148; refine (IM.out _).mono ?_; rintro e w' ⟨rfl, hb1⟩)
      | (go_at_call 115; with_reducible refine (A2.out _).mono ?_; rintro e w' ⟨rfl, hb1⟩)
      | (go_at_call 115; with_reducible refine (A1.out _).mono ?_; rintro e w' ⟨rfl, hb1⟩))
  all_goals go_wp2
  all_goals go_ret2
  all_goals exact ⟨rfl, (‹(_ ∧ _) ∧ Below _ _ _›).2⟩

set_option maxRecDepth 100000 in
set_option maxHeartbeats 4000000 in
theorem specIsSemilattice_8 (ok : FOk 2 8 4) (w : World) :
    Calls Try.prog 60 #[.agg #[.int .i64 2, .int .i64 8]] w fun e w' => e = .returned (.tuple #[.bool true, .int .i64 0]) ∧ Below w.heap.size w w' := by
  have h : isF 2 8 = true := by decide
  have IM : Hid (∀ W, Calls Try.prog 148 #[.agg #[.int .i64 2, .int .i64 8]] W fun e W' => e = .returned (.bool true) ∧ Below W.heap.size W W') := Lib.hid (fun W => l10Idem_any ok W)
  have A0 : Hid (∀ W, Calls Try.prog 115 #[.agg #[.int .i64 2, .int .i64 8], .int .i64 0] W fun e W' => e = .returned (.int .i64 0) ∧ Below W.heap.size W W') := Lib.hid (fun W => l01At_any 2 8 0 ok.hx (by decide) W)
  have A1 : Hid (∀ W, Calls Try.prog 115 #[.agg #[.int .i64 2, .int .i64 8], .int .i64 1] W fun e W' => e = .returned (.int .i64 0) ∧ Below W.heap.size W W') := Lib.hid (fun W => l01At_any 2 8 1 ok.hx (by decide) W)
  have A2 : Hid (∀ W, Calls Try.prog 115 #[.agg #[.int .i64 2, .int .i64 8], .int .i64 2] W fun e W' => e = .returned (.int .i64 0) ∧ Below W.heap.size W W') := Lib.hid (fun W => l01At_any 2 8 2 ok.hx (by decide) W)
  have A3 : Hid (∀ W, Calls Try.prog 115 #[.agg #[.int .i64 2, .int .i64 8], .int .i64 3] W fun e W' => e = .returned (.int .i64 1) ∧ Below W.heap.size W W') := Lib.hid (fun W => l01At_any 2 8 3 ok.hx (by decide) W)
  obtain ⟨W1, hW1⟩ : ∃ W1, w.alloc (.cells #[.int .i64 2, .int .i64 8] 25) = W1 := ⟨_, rfl⟩
  have p0 : W1.cell? ⟨w.heap.size, 0, none⟩ = some (.int .i64 2) := by rw [← hW1]; simp [go_sem]
  have p1 : W1.cell? ⟨w.heap.size, 1, none⟩ = some (.int .i64 8) := by rw [← hW1]; simp [go_sem]
  have hB : Below w.heap.size w W1 := by rw [← hW1]; exact bnew _ _
  go_enter Try.func60, Try.ntmps60
  go_wp2_with (go_at_call 88; refine (l01Is_is h _).mono ?_; rintro e w2 ⟨rfl, hb2⟩; have d0 := kc hb2 p0; have d1 := kc hb2 p1; have hB2 := bthen hB hb2; clear p0 p1 hb2)
  go_region_held3 (fun w' => (w'.cell? ⟨w.heap.size, 0, none⟩ = some (.int .i64 2) ∧ w'.cell? ⟨w.heap.size, 1, none⟩ = some (.int .i64 8)) ∧ Below w.heap.size w w') (first | exact ⟨⟨d0, d1⟩, hB2.drew⟩ | assumption | exact step_heldC hb1 (by assumption))
    (first
      | (go_at_call 148; refine (IM.out _).mono ?_; rintro e w' ⟨rfl, hb1⟩)
      | (go_at_call 115; with_reducible refine (A2.out _).mono ?_; rintro e w' ⟨rfl, hb1⟩)
      | (go_at_call 115; with_reducible refine (A1.out _).mono ?_; rintro e w' ⟨rfl, hb1⟩))
  obtain ⟨⟨y0, y1⟩, hB3⟩ := (‹(_ ∧ _) ∧ Below _ _ _›)
  clear d0 d1 hB2 hW1
  have e0 : bits .and .i64 (0 : Int) 1 = 0 := by decide
  have e1 : bits .and .i64 (1 : Int) 1 = 1 := by decide
  have e2 : bits .and .i64 (2 : Int) 1 = 0 := by decide
  have e3 : bits .and .i64 (3 : Int) 1 = 1 := by decide
  have e4 : bits .and .i64 (4 : Int) 1 = 0 := by decide
  have e5 : bits .and .i64 (5 : Int) 1 = 1 := by decide
  have e6 : bits .and .i64 (6 : Int) 1 = 0 := by decide
  have e7 : bits .and .i64 (7 : Int) 1 = 1 := by decide
  have ww0 : IntKind.i64.wrap (0 : Int) = 0 := by decide
  have ww1 : IntKind.i64.wrap (1 : Int) = 1 := by decide
  have ww2 : IntKind.i64.wrap (2 : Int) = 2 := by decide
  have ww3 : IntKind.i64.wrap (3 : Int) = 3 := by decide
  go_wp2
  go_loopw [4] (fun i' wr => ∃ i : Nat, i ≤ 8 ∧ i' = .int .i64 i ∧ ((wr.cell? ⟨w.heap.size, 0, none⟩ = some (.int .i64 2) ∧ wr.cell? ⟨w.heap.size, 1, none⟩ = some (.int .i64 8)) ∧ Below w.heap.size w wr)) (fun i' _ => 8 - (intOf i').toNat)
  case atStart => exact ⟨0, by omega, rfl, ⟨y0, y1⟩, hB3⟩
  case round =>
    clear y0 y1 hB3
    obtain ⟨i, hi, rfl, ⟨d0, d1⟩, hB2⟩ := hrel
    by_cases hlt : i < 8
    · rcases (show i = 0 ∨ i = 1 ∨ i = 2 ∨ i = 3 ∨ i = 4 ∨ i = 5 ∨ i = 6 ∨ i = 7 by omega) with rfl | rfl | rfl | rfl | rfl | rfl | rfl | rfl
      all_goals
        clear hi hlt
        go_wp2
        go_region_held3 (fun w' => (w'.cell? ⟨w.heap.size, 0, none⟩ = some (.int .i64 2) ∧ w'.cell? ⟨w.heap.size, 1, none⟩ = some (.int .i64 8)) ∧ Below w.heap.size w w') (first | exact ⟨⟨d0, d1⟩, hB2.drew⟩ | assumption | exact step_heldC hb1 (by assumption))
            (first
              | (go_at_call 115; with_reducible refine (A0.out _).mono ?_; rintro e w' ⟨rfl, hb1⟩)
              | (go_at_call 115; with_reducible refine (A1.out _).mono ?_; rintro e w' ⟨rfl, hb1⟩)
              | (go_at_call 115; with_reducible refine (A2.out _).mono ?_; rintro e w' ⟨rfl, hb1⟩)
              | (go_at_call 115; with_reducible refine (A3.out _).mono ?_; rintro e w' ⟨rfl, hb1⟩))
        go_wp2
        go_roundw
        case rel => exact ⟨_, (by decide), rfl, (‹(_ ∧ _) ∧ Below _ _ _›).1, (‹(_ ∧ _) ∧ Below _ _ _›).2⟩
        case measure => decide
    · obtain rfl : i = 8 := by omega
      go_wp2
      go_ret2
      exact ⟨rfl, hB2⟩

set_option maxRecDepth 100000 in
set_option maxHeartbeats 4000000 in
theorem specIsSemilattice_14 (ok : FOk 2 14 4) (w : World) :
    Calls Try.prog 60 #[.agg #[.int .i64 2, .int .i64 14]] w fun e w' => e = .returned (.tuple #[.bool true, .int .i64 0]) ∧ Below w.heap.size w w' := by
  have h : isF 2 14 = true := by decide
  have IM : Hid (∀ W, Calls Try.prog 148 #[.agg #[.int .i64 2, .int .i64 14]] W fun e W' => e = .returned (.bool true) ∧ Below W.heap.size W W') := Lib.hid (fun W => l10Idem_any ok W)
  have A0 : Hid (∀ W, Calls Try.prog 115 #[.agg #[.int .i64 2, .int .i64 14], .int .i64 0] W fun e W' => e = .returned (.int .i64 0) ∧ Below W.heap.size W W') := Lib.hid (fun W => l01At_any 2 14 0 ok.hx (by decide) W)
  have A1 : Hid (∀ W, Calls Try.prog 115 #[.agg #[.int .i64 2, .int .i64 14], .int .i64 1] W fun e W' => e = .returned (.int .i64 1) ∧ Below W.heap.size W W') := Lib.hid (fun W => l01At_any 2 14 1 ok.hx (by decide) W)
  have A2 : Hid (∀ W, Calls Try.prog 115 #[.agg #[.int .i64 2, .int .i64 14], .int .i64 2] W fun e W' => e = .returned (.int .i64 1) ∧ Below W.heap.size W W') := Lib.hid (fun W => l01At_any 2 14 2 ok.hx (by decide) W)
  have A3 : Hid (∀ W, Calls Try.prog 115 #[.agg #[.int .i64 2, .int .i64 14], .int .i64 3] W fun e W' => e = .returned (.int .i64 1) ∧ Below W.heap.size W W') := Lib.hid (fun W => l01At_any 2 14 3 ok.hx (by decide) W)
  obtain ⟨W1, hW1⟩ : ∃ W1, w.alloc (.cells #[.int .i64 2, .int .i64 14] 25) = W1 := ⟨_, rfl⟩
  have p0 : W1.cell? ⟨w.heap.size, 0, none⟩ = some (.int .i64 2) := by rw [← hW1]; simp [go_sem]
  have p1 : W1.cell? ⟨w.heap.size, 1, none⟩ = some (.int .i64 14) := by rw [← hW1]; simp [go_sem]
  have hB : Below w.heap.size w W1 := by rw [← hW1]; exact bnew _ _
  go_enter Try.func60, Try.ntmps60
  go_wp2_with (go_at_call 88; refine (l01Is_is h _).mono ?_; rintro e w2 ⟨rfl, hb2⟩; have d0 := kc hb2 p0; have d1 := kc hb2 p1; have hB2 := bthen hB hb2; clear p0 p1 hb2)
  go_region_held3 (fun w' => (w'.cell? ⟨w.heap.size, 0, none⟩ = some (.int .i64 2) ∧ w'.cell? ⟨w.heap.size, 1, none⟩ = some (.int .i64 14)) ∧ Below w.heap.size w w') (first | exact ⟨⟨d0, d1⟩, hB2.drew⟩ | assumption | exact step_heldC hb1 (by assumption))
    (first
      | (go_at_call 148; refine (IM.out _).mono ?_; rintro e w' ⟨rfl, hb1⟩)
      | (go_at_call 115; with_reducible refine (A2.out _).mono ?_; rintro e w' ⟨rfl, hb1⟩)
      | (go_at_call 115; with_reducible refine (A1.out _).mono ?_; rintro e w' ⟨rfl, hb1⟩))
  obtain ⟨⟨y0, y1⟩, hB3⟩ := (‹(_ ∧ _) ∧ Below _ _ _›)
  clear d0 d1 hB2 hW1
  have e0 : bits .and .i64 (0 : Int) 1 = 0 := by decide
  have e1 : bits .and .i64 (1 : Int) 1 = 1 := by decide
  have e2 : bits .and .i64 (2 : Int) 1 = 0 := by decide
  have e3 : bits .and .i64 (3 : Int) 1 = 1 := by decide
  have e4 : bits .and .i64 (4 : Int) 1 = 0 := by decide
  have e5 : bits .and .i64 (5 : Int) 1 = 1 := by decide
  have e6 : bits .and .i64 (6 : Int) 1 = 0 := by decide
  have e7 : bits .and .i64 (7 : Int) 1 = 1 := by decide
  have ww0 : IntKind.i64.wrap (0 : Int) = 0 := by decide
  have ww1 : IntKind.i64.wrap (1 : Int) = 1 := by decide
  have ww2 : IntKind.i64.wrap (2 : Int) = 2 := by decide
  have ww3 : IntKind.i64.wrap (3 : Int) = 3 := by decide
  go_wp2
  go_loopw [4] (fun i' wr => ∃ i : Nat, i ≤ 8 ∧ i' = .int .i64 i ∧ ((wr.cell? ⟨w.heap.size, 0, none⟩ = some (.int .i64 2) ∧ wr.cell? ⟨w.heap.size, 1, none⟩ = some (.int .i64 14)) ∧ Below w.heap.size w wr)) (fun i' _ => 8 - (intOf i').toNat)
  case atStart => exact ⟨0, by omega, rfl, ⟨y0, y1⟩, hB3⟩
  case round =>
    clear y0 y1 hB3
    obtain ⟨i, hi, rfl, ⟨d0, d1⟩, hB2⟩ := hrel
    by_cases hlt : i < 8
    · rcases (show i = 0 ∨ i = 1 ∨ i = 2 ∨ i = 3 ∨ i = 4 ∨ i = 5 ∨ i = 6 ∨ i = 7 by omega) with rfl | rfl | rfl | rfl | rfl | rfl | rfl | rfl
      all_goals
        clear hi hlt
        go_wp2
        go_region_held3 (fun w' => (w'.cell? ⟨w.heap.size, 0, none⟩ = some (.int .i64 2) ∧ w'.cell? ⟨w.heap.size, 1, none⟩ = some (.int .i64 14)) ∧ Below w.heap.size w w') (first | exact ⟨⟨d0, d1⟩, hB2.drew⟩ | assumption | exact step_heldC hb1 (by assumption))
            (first
              | (go_at_call 115; with_reducible refine (A0.out _).mono ?_; rintro e w' ⟨rfl, hb1⟩)
              | (go_at_call 115; with_reducible refine (A1.out _).mono ?_; rintro e w' ⟨rfl, hb1⟩)
              | (go_at_call 115; with_reducible refine (A2.out _).mono ?_; rintro e w' ⟨rfl, hb1⟩)
              | (go_at_call 115; with_reducible refine (A3.out _).mono ?_; rintro e w' ⟨rfl, hb1⟩))
        go_wp2
        go_roundw
        case rel => exact ⟨_, (by decide), rfl, (‹(_ ∧ _) ∧ Below _ _ _›).1, (‹(_ ∧ _) ∧ Below _ _ _›).2⟩
        case measure => decide
    · obtain rfl : i = 8 := by omega
      go_wp2
      go_ret2
      exact ⟨rfl, hB2⟩

theorem bothIsSemilattice (n b : Int) (_ : (Lit.int .i64 n).wf = true) (_ : (Lit.int .i64 b).wf = true) : ∃ (rx : Bool) (rc : Int),
    (∀ w, Calls Try.prog 60 #[.agg #[.int .i64 n, .int .i64 b]] w fun e w' => e = .returned (.tuple #[.bool rx, .int .i64 rc]) ∧ Below w.heap.size w w') ∧
    (∀ w, Calls Try.prog 59 #[.agg #[.int .i64 n, .int .i64 b]] w fun e w' => e = .returned (.tuple #[.bool rx, .int .i64 rc]) ∧ Below w.heap.size w w') := by
  cases h : isF n b
  · exact ⟨_, _, specIsSemilattice_no h, implIsSemilattice_no h⟩
  · obtain ⟨x, R, rfl, ok⟩ := fok h
    refine ⟨slB n x R, 0, ?_, implIsSemilattice_yes ok⟩
    by_cases hn : n = 2
    · subst hn
      obtain rfl : R = 4 := by rw [ok.he]; rfl
      have hx16 : x < 16 := ok.hB
      cases hi : idB x 4
      · rw [slB_idem hi]; exact specIsSemilattice_idem ok hi
      · by_cases hd : bitN x 1 = bitN x 2
        · rcases sl_two x hx16 hi hd with rfl | rfl
          · rw [sl_yes.1]; exact specIsSemilattice_8 ok
          · rw [sl_yes.2]; exact specIsSemilattice_14 ok
        · rw [slB_sym (sl_dif x hx16 hd)]; exact specIsSemilattice_dif ok hi hd
    · rw [slB_other hn]; exact specIsSemilattice_other ok hn

end Go.Proofs.Ytbdhlokbpbiijaa

/- Y1:
  Draws: the next number of a source. -/
namespace Go.Proofs.Ytbdhlokbpbiijaa
open Go.RowKit
set_option linter.unusedVariables false
set_option linter.unusedSimpArgs false

/-- The bytes that a source reads. -/
def Bytes (W : World) (a : Option Addr) (len : Nat) : Prop := len = 0 ∨ ∃ g off, a = some ⟨g, off, none⟩ ∧ ∀ j, j < len → ∃ v : Nat, v < 256 ∧ W.cell? ⟨g, off + j, none⟩ = some (.int .u8 (v : Int))
/-- A source of draws. -/
structure Src (b : Nat) (a : Option Addr) (len cap at' : Nat) (h : Int) (W : World) : Prop where
  c0 : W.cell? ⟨b, 0, none⟩ = some (.slice a len cap)
  c1 : W.cell? ⟨b, 1, none⟩ = some (.int .i64 (at' : Int))
  c2 : W.cell? ⟨b, 2, none⟩ = some (.int .u64 h)
  f1 : W.frozen? ⟨b, 1, none⟩ = false
  f2 : W.frozen? ⟨b, 2, none⟩ = false

theorem and_small (y : Int) : 0 ≤ bits .and .u64 y 16777215 ∧ bits .and .u64 y 16777215 < 16777216 := by
  have e : bits .and .u64 y 16777215 = IntKind.u64.wrap (((BitVec.ofInt 64 y &&& BitVec.ofInt 64 16777215).toNat : Nat) : Int) := rfl
  have h1 : (BitVec.ofInt 64 y &&& BitVec.ofInt 64 16777215).toNat ≤ 16777215 := by
    rw [BitVec.toNat_and]
    exact Nat.and_le_right
  rw [e]
  have h2 : IntKind.u64.wrap (((BitVec.ofInt 64 y &&& BitVec.ofInt 64 16777215).toNat : Nat) : Int) = (((BitVec.ofInt 64 y &&& BitVec.ofInt 64 16777215).toNat : Nat) : Int) := by
    unfold IntKind.wrap
    simp only [IntKind.bits, IntKind.signed]
    generalize (BitVec.ofInt 64 y &&& BitVec.ofInt 64 16777215).toNat = t at h1 ⊢
    simp
    omega
  rw [h2]
  omega

theorem wrap_24 {x : Int} (h0 : 0 ≤ x) (h1 : x < 16777216) : wrap64 x = x := by unfold wrap64; omega
theorem gset {w w' : World} {b : Nat} (h : w.grownBy w' (some b)) (i : Nat) (v : Value) : w.grownBy (w'.setCell ⟨b, i, none⟩ v) (some b) := Lib.grownBy_setB h i v
theorem gdrew {w w' : World} {row : Option Nat} (h : w.grownBy w' row) : w.grownBy w'.drew row := ⟨h.os, h.tape, h.output, h.size, h.block⟩

/-- What the next draw leaves. -/
def NextPost (b : Nat) (a : Option Addr) (len cap : Nat) (n : Int) (w : World) (e : Ending) (w' : World) : Prop :=
  ∃ (x : Int) (at2 : Nat) (h2 : Int), e = .returned (.int .i64 x) ∧ 0 ≤ x ∧ x < n ∧ at2 < 2 ^ 62 ∧ Src b a len cap at2 h2 w' ∧ w.grownBy w' (some b)

set_option maxRecDepth 100000 in
set_option maxHeartbeats 4000000 in
theorem l01Next_end (b : Nat) (a : Option Addr) (len cap at' : Nat) (h : Int) (hat : len ≤ at') (hat2 : at' < 2 ^ 62) (n : Int) (hn : 1 ≤ n) (hn2 : n < 2 ^ 62) (w : World) (S : Src b a len cap at' h w) :
    Calls Try.prog 111 #[.pointer (some ⟨b, 0, none⟩), .int .i64 n] w (NextPost b a len cap n w) := by
  obtain ⟨c0, c1, c2, f1, f2⟩ := S
  have hd : decide (n < 1) = false := by simp; omega
  obtain ⟨h', eh⟩ : ∃ h', IntKind.u64.wrap (IntKind.u64.wrap (h * 6364136223846793005) + 1442695040888963407) = h' := ⟨_, rfl⟩
  obtain ⟨v, ev⟩ : ∃ v, bits .and .u64 (h' / 8589934592) 16777215 = v := ⟨_, rfl⟩
  have hv := and_small (h' / 8589934592)
  rw [ev] at hv
  obtain ⟨v0, v1⟩ := hv
  have hw := wrap_24 v0 v1
  have hle : decide ((at' : Int) < (len : Int)) = false := by simp; omega
  have hne : (n == 0) = false := by simp; omega
  go_enter Try.func111, Try.ntmps111
  go_wp2_with fail
  go_region
  go_wp2
  go_ret
  refine ⟨v % n, at', h', rfl, Int.emod_nonneg _ (by omega), Int.emod_lt_of_pos _ (by omega), hat2, ⟨by simp [go_sem, c0], by simp [go_sem, c1], by simp [go_sem, c2], by simpa [go_sem] using f1, by simpa [go_sem] using f2⟩, gdrew (Lib.grownBy_setCell w b 2 _)⟩

set_option maxRecDepth 100000 in
set_option maxHeartbeats 4000000 in
theorem l01Next_more (b g off len cap at' vb : Nat) (h : Int) (hat : at' < len) (hat2 : len < 2 ^ 62) (hgb : ¬ g = b) (hvb : vb < 256) (n : Int) (hn : 1 ≤ n) (hn2 : n < 2 ^ 62) (w : World) (S : Src b (some ⟨g, off, none⟩) len cap at' h w) (hc : w.cell? ⟨g, off + at', none⟩ = some (.int .u8 (vb : Int))) :
    Calls Try.prog 111 #[.pointer (some ⟨b, 0, none⟩), .int .i64 n] w (NextPost b (some ⟨g, off, none⟩) len cap n w) := by
  obtain ⟨c0, c1, c2, f1, f2⟩ := S
  have hd : decide (n < 1) = false := by simp; omega
  obtain ⟨h', eh⟩ : ∃ h', IntKind.u64.wrap (IntKind.u64.wrap (h * 6364136223846793005) + 1442695040888963407) = h' := ⟨_, rfl⟩
  obtain ⟨v, ev⟩ : ∃ v, bits .and .u64 (h' / 8589934592) 16777215 = v := ⟨_, rfl⟩
  have hv := and_small (h' / 8589934592)
  rw [ev] at hv
  obtain ⟨v0, v1⟩ := hv
  have hw := wrap_24 v0 v1
  have hle : decide ((at' : Int) < (len : Int)) = true := by simp; omega
  have i0 : (0 : Int) ≤ (at' : Int) := by omega
  have i1 : (at' : Int) < (len : Int) := by omega
  have hne : (n == 0) = false := by simp; omega
  have hx : IntKind.i64.wrap (v + (vb : Int)) = v + (vb : Int) := wrap64_small (by omega) (by omega)
  go_enter Try.func111, Try.ntmps111
  go_wp2_with fail
  go_region
  go_wp2_with fail
  go_region
  go_wp2
  go_ret
  refine ⟨(v + (vb : Int)) % n, at' + 1, h', rfl, Int.emod_nonneg _ (by omega), Int.emod_lt_of_pos _ (by omega), by omega, ⟨by simp [go_sem, c0], by simp [go_sem, c1], by simp [go_sem, c2], by simpa [go_sem] using f1, by simpa [go_sem] using f2⟩, gdrew (gdrew (gset (Lib.grownBy_setCell w b 2 _) 1 _))⟩

/-- The next draw, wherever the source stands. -/
theorem l01Next_any (b : Nat) (a : Option Addr) (len cap at' : Nat) (h : Int) (hat : at' < 2 ^ 62) (hlen : len < 2 ^ 62) {w0 : World} (hB : Bytes w0 a len) (n : Int) (hn : 1 ≤ n) (hn2 : n < 2 ^ 62) (w : World)
    (hk : 0 < len → ∀ g off, a = some ⟨g, off, none⟩ → ¬ g = b ∧ ∀ j u, w0.cell? ⟨g, off + j, none⟩ = some u → w.cell? ⟨g, off + j, none⟩ = some u) (S : Src b a len cap at' h w) :
    Calls Try.prog 111 #[.pointer (some ⟨b, 0, none⟩), .int .i64 n] w (NextPost b a len cap n w) := by
  by_cases hlt : at' < len
  · rcases hB with h0 | ⟨g, off, rfl, hc⟩
    · omega
    · obtain ⟨vb, hvb, hcell⟩ := hc at' hlt
      obtain ⟨hgb, hcs⟩ := hk (by omega) g off rfl
      exact l01Next_more b g off len cap at' vb h hlt hlen hgb hvb n hn hn2 w S (hcs at' _ hcell)
  · exact l01Next_end b a len cap at' h (by omega) hat n hn hn2 w S
end Go.Proofs.Ytbdhlokbpbiijaa

/- Y2:
  Draws: a source made of bytes. -/
namespace Go.Proofs.Ytbdhlokbpbiijaa
open Go.RowKit
set_option linter.unusedVariables false
set_option linter.unusedSimpArgs false

theorem Src.drew {b : Nat} {a : Option Addr} {len cap at' : Nat} {h : Int} {W : World} (S : Src b a len cap at' h W) : Src b a len cap at' h W.drew := ⟨S.c0, S.c1, S.c2, S.f1, S.f2⟩

/-- A new source. -/
def FromPost (a : Option Addr) (len cap : Nat) (w : World) (e : Ending) (w' : World) : Prop :=
  ∃ h : Int, e = .returned (.pointer (some ⟨w.heap.size, 0, none⟩)) ∧ Src w.heap.size a len cap 0 h w' ∧ Below w.heap.size w w'

set_option maxRecDepth 100000 in
set_option maxHeartbeats 4000000 in
theorem l01From_any (a : Option Addr) (len cap : Nat) (hl : len ≤ 1048576) (w : World) (hB : Bytes w a len) :
    Calls Try.prog 100 #[.slice a len cap] w (FromPost a len cap w) := by
  obtain ⟨W1, hW1⟩ : ∃ W1, w.alloc (.cells #[.slice a len cap, .int .i64 0, .int .u64 (13231 + (len : Int))] 170) = W1 := ⟨_, rfl⟩
  have S1 : Src w.heap.size a len cap 0 (13231 + (len : Int)) W1 := by
    rw [← hW1]
    exact ⟨by simp [go_sem], by simp [go_sem], by simp [go_sem], by simp [go_sem], by simp [go_sem]⟩
  have hB1 : Below w.heap.size w W1 := by rw [← hW1]; exact bnew _ _
  go_enter Try.func100, Try.ntmps100
  go_wp2_with fail
  clear hW1
  go_loopw [4] (fun i' wr => ∃ (i : Nat) (h : Int), i ≤ len ∧ i' = .int .i64 i ∧ Src w.heap.size a len cap 0 h wr ∧ Below w.heap.size w wr) (fun i' _ => len - (intOf i').toNat)
  case atStart => exact ⟨0, _, Nat.zero_le _, rfl, S1, hB1⟩
  case round =>
    clear S1 hB1
    obtain ⟨i, h, hi, rfl, S, hN⟩ := hrel
    by_cases hlt : i < len
    · have i0 : (0 : Int) ≤ (i : Int) := by omega
      have i1 : (i : Int) < (len : Int) := by omega
      rcases hB with h0 | ⟨g, off, rfl, hc⟩
      · omega
      obtain ⟨vb, hvb, hcell0⟩ := hc i hlt
      have hcell := kc hN hcell0
      have hg := cell_lt hcell0
      have hgb : ¬ g = w.heap.size := by
        have : g < w.heap.size := hg
        omega
      clear hcell0 hg hc
      obtain ⟨c0, c1, c2, f1, f2⟩ := S
      by_cases h4 : i < 4096
      · have hd1 : decide ((i : Int) < 4096) = true := by simp; omega
        have hd2 : decide ((i : Int) < (len : Int)) = true := by simp; omega
        obtain ⟨h', eh⟩ : ∃ h', IntKind.u64.wrap (IntKind.u64.wrap (IntKind.u64.wrap (h * 1099511628211) + (vb : Int)) + 149) = h' := ⟨_, rfl⟩
        go_wp2_with fail
        go_region
        go_wp2
        go_roundw
        case rel => exact ⟨i + 1, h', by omega, by go_num, ⟨by simp [go_sem, c0], by simp [go_sem, c1], by simp [go_sem, c2], by simpa [go_sem] using f1, by simpa [go_sem] using f2⟩, (hN.setCell (p := ⟨w.heap.size, 2, none⟩) (Nat.le_refl _) _).drew⟩
        case measure => simp [intOf]; omega
      · have hd1 : decide ((i : Int) < 4096) = false := by simp; omega
        have hd2 : decide ((i : Int) < (len : Int)) = true := by simp; omega
        go_wp2
        go_ret
        exact ⟨h, rfl, ⟨c0, c1, c2, f1, f2⟩, hN⟩
    · have hd2 : decide ((i : Int) < (len : Int)) = false := by simp; omega
      go_wp2
      go_ret
      exact ⟨h, rfl, S, hN⟩
end Go.Proofs.Ytbdhlokbpbiijaa

/- Y3:
  Draws: a source with all that a draw asks for. -/
namespace Go.Proofs.Ytbdhlokbpbiijaa
open Go.RowKit
set_option linter.unusedVariables false
set_option linter.unusedSimpArgs false

/-- A source, and the bytes that it reads. -/
def SrcOk (b : Nat) (a : Option Addr) (len cap : Nat) (W : World) : Prop :=
  len < 2 ^ 62 ∧ Bytes W a len ∧ (0 < len → ∀ g off, a = some ⟨g, off, none⟩ → ¬ g = b) ∧ ∃ (at' : Nat) (h : Int), at' < 2 ^ 62 ∧ Src b a len cap at' h W

theorem cell_grown {W W' : World} {b : Nat} {p : Addr} {u : Value} (hg : W.grownBy W' (some b)) (hp : ¬ p.block = b) (h : W.cell? p = some u) : W'.cell? p = some u := by
  rw [hg.cell_far p (cell_lt h) (by intro e; cases e; exact hp rfl)]
  exact h

theorem Bytes.grown {W W' : World} {a : Option Addr} {len b : Nat} (h : Bytes W a len) (hg : W.grownBy W' (some b)) (hb : 0 < len → ∀ g off, a = some ⟨g, off, none⟩ → ¬ g = b) : Bytes W' a len := by
  rcases h with h0 | ⟨g, off, rfl, hc⟩
  · exact .inl h0
  · refine .inr ⟨g, off, rfl, fun j hj => ?_⟩
    obtain ⟨v, hv, hcell⟩ := hc j hj
    exact ⟨v, hv, cell_grown hg (hb (by omega) g off rfl) hcell⟩

theorem next_ok {b : Nat} {a : Option Addr} {len cap : Nat} (n : Int) (hn : 1 ≤ n) (hn2 : n < 2 ^ 62) (w : World) (S : SrcOk b a len cap w) :
    Calls Try.prog 111 #[.pointer (some ⟨b, 0, none⟩), .int .i64 n] w fun e w' => ∃ x : Int, e = .returned (.int .i64 x) ∧ 0 ≤ x ∧ x < n ∧ SrcOk b a len cap w' ∧ w.grownBy w' (some b) := by
  obtain ⟨hl, hB, hb, at', h, hat, hS⟩ := S
  refine (l01Next_any b a len cap at' h hat hl hB n hn hn2 w (fun h0 g off e => ⟨hb h0 g off e, fun j u hu => hu⟩) hS).mono ?_
  rintro e w' ⟨x, at2, h2, rfl, x0, x1, hat2, hS2, hg⟩
  exact ⟨x, rfl, x0, x1, ⟨hl, hB.grown hg hb, hb, at2, h2, hat2, hS2⟩, hg⟩

theorem from_ok {a : Option Addr} {len cap : Nat} (hl : len ≤ 1048576) (w : World) (hB : Bytes w a len) (hlt : 0 < len → ∀ g off, a = some ⟨g, off, none⟩ → g < w.heap.size) :
    Calls Try.prog 100 #[.slice a len cap] w fun e w' => e = .returned (.pointer (some ⟨w.heap.size, 0, none⟩)) ∧ SrcOk w.heap.size a len cap w' ∧ Below w.heap.size w w' := by
  refine (l01From_any a len cap hl w hB).mono ?_
  rintro e w' ⟨h, rfl, hS, hb⟩
  refine ⟨rfl, ⟨by omega, ?_, fun h0 g off e => by have := hlt h0 g off e; omega, 0, h, by decide, hS⟩, hb⟩
  rcases hB with h0 | ⟨g, off, rfl, hc⟩
  · exact .inl h0
  · refine .inr ⟨g, off, rfl, fun j hj => ?_⟩
    obtain ⟨v, hv, hcell⟩ := hc j hj
    exact ⟨v, hv, kc hb hcell⟩
end Go.Proofs.Ytbdhlokbpbiijaa

/- Y4:
  Draws: one of some numbers, a number near a range. -/
namespace Go.Proofs.Ytbdhlokbpbiijaa
open Go.RowKit
set_option linter.unusedVariables false
set_option linter.unusedSimpArgs false

theorem gOf {W W' : World} (hb : Below W.heap.size W W') (b : Nat) : W.grownBy W' (some b) := ⟨hb.os, hb.tape, hb.output, hb.size, fun k hk _ => hb.block k hk⟩
theorem gGo {a b c : World} {row : Option Nat} (h : a.grownBy b row) (k : b.grownBy c row) : a.grownBy c row :=
  ⟨k.os.trans h.os, k.tape.trans h.tape, k.output.trans h.output, Nat.le_trans h.size k.size, fun j hj hr => (k.block j (Nat.lt_of_lt_of_le hj h.size) hr).trans (h.block j hj hr)⟩
theorem gSet {W W' : World} {b : Nat} (h : W.grownBy W' (some b)) {p : Addr} (hp : W.heap.size ≤ p.block) (u : Value) : W.grownBy (W'.setCell p u) (some b) :=
  ⟨h.os, h.tape, h.output, by simpa using h.size, fun k hk hr => (Below.heap_setCell _ _ _ k (by omega)).trans (h.block k hk hr)⟩
theorem kcg {W W' : World} {b : Nat} {p : Addr} {u : Value} (hg : W.grownBy W' (some b)) (hp : ¬ p.block = b) (h : W.cell? p = some u) : W'.cell? p = some u := cell_grown hg hp h
theorem kfg {W W' : World} {b : Nat} {p : Addr} {u : Value} (hg : W.grownBy W' (some b)) (hp : ¬ p.block = b) (h : W.cell? p = some u) (hf : W.frozen? p = false) : W'.frozen? p = false := by
  rw [World.frozen?_of_block (w := W) (a := p) (hg.block p.block (cell_lt h) (by intro e; cases e; exact hp rfl))]
  exact hf

theorem SrcOk.lt {b : Nat} {a : Option Addr} {len cap : Nat} {W : World} (S : SrcOk b a len cap W) : b < W.heap.size := by
  obtain ⟨_, _, _, at', h, _, hS⟩ := S
  exact cell_lt hS.c1
theorem SrcOk.below {b : Nat} {a : Option Addr} {len cap : Nat} {W W' : World} (S : SrcOk b a len cap W) (hb : Below W.heap.size W W') : SrcOk b a len cap W' := by
  obtain ⟨hl, hB, hne, at', h, hat, hS⟩ := S
  refine ⟨hl, ?_, hne, at', h, hat, ⟨kc hb hS.c0, kc hb hS.c1, kc hb hS.c2, kf hb hS.c1 hS.f1, kf hb hS.c2 hS.f2⟩⟩
  rcases hB with h0 | ⟨g, off, rfl, hc⟩
  · exact .inl h0
  · refine .inr ⟨g, off, rfl, fun j hj => ?_⟩
    obtain ⟨v, hv, hcell⟩ := hc j hj
    exact ⟨v, hv, kc hb hcell⟩
theorem SrcOk.set {b : Nat} {a : Option Addr} {len cap : Nat} {W : World} (S : SrcOk b a len cap W) {p : Addr} {W0 : World} (hb : 0 < len → ∀ g off, a = some ⟨g, off, none⟩ → g < W0.heap.size) (hb2 : b < W0.heap.size) (hp : W0.heap.size ≤ p.block) (u : Value) : SrcOk b a len cap (W.setCell p u) := by
  obtain ⟨hl, hB, hne, at', h, hat, hS⟩ := S
  have e1 : ¬ p.block = b := by omega
  have key : ∀ (q : Addr), ¬ p.block = q.block → (W.setCell p u).cell? q = W.cell? q := fun q hq => World.cell?_of_block (w := W) (Below.heap_setCell W p u q.block (fun e => hq e.symm))
  refine ⟨hl, ?_, hne, at', h, hat, ⟨(key _ e1).trans hS.c0, (key _ e1).trans hS.c1, (key _ e1).trans hS.c2, by rw [World.frozen?_setCell]; exact hS.f1, by rw [World.frozen?_setCell]; exact hS.f2⟩⟩
  rcases hB with h0 | ⟨g, off, rfl, hc⟩
  · exact .inl h0
  · refine .inr ⟨g, off, rfl, fun j hj => ?_⟩
    have hgl := hb (by omega) g off rfl
    obtain ⟨v, hv, hcell⟩ := hc j hj
    exact ⟨v, hv, (key ⟨g, off + j, none⟩ (by show ¬ p.block = g; omega)).trans hcell⟩

set_option maxRecDepth 100000 in
set_option maxHeartbeats 2000000 in
theorem pick_ok {b : Nat} {a : Option Addr} {len cap : Nat} (n c : Nat) (hn : 1 ≤ n) (hn2 : n ≤ 1000) (g : Nat) (v : Nat → Int) (w : World) (S : SrcOk b a len cap w) (hg : ¬ g = b) (hc : Hid (∀ j, j < n → w.cell? ⟨g, j, none⟩ = some (.int .i64 (v j)))) :
    Calls Try.prog 102 #[.pointer (some ⟨b, 0, none⟩), .slice (some ⟨g, 0, none⟩) n c] w fun e w' => ∃ i, i < n ∧ e = .returned (.int .i64 (v i)) ∧ SrcOk b a len cap w' ∧ w.grownBy w' (some b) := by
  have hS := Lib.hid S
  clear S
  go_enter Try.func102, Try.ntmps102
  go_wp2_with fail
  refine (next_ok (n : Int) (by omega) (by omega) _ hS.out).mono ?_
  rintro e w2 ⟨x, rfl, x0, x1, S2, hg2⟩
  obtain ⟨i, rfl⟩ := Int.eq_ofNat_of_zero_le x0
  have hi : i < n := by omega
  have hci := kcg hg2 (p := ⟨g, i, none⟩) hg (hc.out i hi)
  have HS2 := Lib.hid S2
  have HG2 := Lib.hid hg2
  clear S2 hg2
  go_wp2
  go_ret
  exact ⟨i, hi, rfl, HS2.out, HG2.out⟩

/-- What a draw of a number hands out: some int64. -/
def NumPost (b : Nat) (a : Option Addr) (len cap : Nat) (lo hi : Int) (w : World) (e : Ending) (w' : World) : Prop :=
  ∃ x : Int, e = .returned (.int .i64 x) ∧ lo ≤ x ∧ x ≤ hi ∧ SrcOk b a len cap w' ∧ w.grownBy w' (some b)

set_option maxRecDepth 100000 in
set_option maxHeartbeats 2000000 in
theorem near_ok {b : Nat} {a : Option Addr} {len cap : Nat} (most : Int) (h0 : 0 ≤ most) (h1 : most ≤ 100000) (w : World) (S : SrcOk b a len cap w) :
    Calls Try.prog 103 #[.pointer (some ⟨b, 0, none⟩), .int .i64 most] w (NumPost b a len cap (-4611686018427387904) 1099511627776 w) := by
  have hS := Lib.hid S
  clear S
  go_enter Try.func103, Try.ntmps103
  go_wp2_with fail
  refine (next_ok 14 (by omega) (by omega) _ hS.out).mono ?_
  rintro e w2 ⟨x, rfl, x0, x1, S2, hg2⟩
  have HS2 := Lib.hid S2
  have HG2 := Lib.hid hg2
  clear S2 hg2
  by_cases hx : x = 0
  · subst hx
    obtain ⟨W3, hW3⟩ : ∃ W3, w2.alloc (.cells #[.int .i64 (-1), .int .i64 (most + 1), .int .i64 1099511627776, .int .i64 (-4611686018427387904)] 2) = W3 := ⟨_, rfl⟩
    have d0 : W3.cell? ⟨w2.heap.size, 0, none⟩ = some (.int .i64 (-1)) := by rw [← hW3]; simp [go_sem]
    have d1 : W3.cell? ⟨w2.heap.size, 1, none⟩ = some (.int .i64 (most + 1)) := by rw [← hW3]; simp [go_sem]
    have d2 : W3.cell? ⟨w2.heap.size, 2, none⟩ = some (.int .i64 1099511627776) := by rw [← hW3]; simp [go_sem]
    have d3 : W3.cell? ⟨w2.heap.size, 3, none⟩ = some (.int .i64 (-4611686018427387904)) := by rw [← hW3]; simp [go_sem]
    have hb3 : Below w2.heap.size w2 W3 := by rw [← hW3]; exact bnew _ _
    have hne : ¬ w2.heap.size = b := by have := HS2.out.lt; omega
    have PK := Lib.hid (pick_ok 4 4 (by omega) (by omega) w2.heap.size (fun j => if j = 0 then -1 else if j = 1 then most + 1 else if j = 2 then 1099511627776 else -4611686018427387904) W3 (HS2.out.below hb3) hne (Lib.hid fun j hj => by
      rcases (show j = 0 ∨ j = 1 ∨ j = 2 ∨ j = 3 by omega) with rfl | rfl | rfl | rfl
      · exact d0
      · exact d1
      · exact d2
      · exact d3))
    clear d0 d1 d2 d3
    go_wp2_with fail
    refine PK.out.mono ?_
    rintro e w4 ⟨i, hi, rfl, S4, hg4⟩
    have HS4 := Lib.hid S4
    have HG4 := Lib.hid (gGo HG2.out (gGo (gOf hb3 b) hg4))
    clear S4 hg4
    obtain ⟨v, hv⟩ : ∃ v : Int, v = (if i = 0 then -1 else if i = 1 then most + 1 else if i = 2 then 1099511627776 else -4611686018427387904 : Int) := ⟨_, rfl⟩
    have hvb : -4611686018427387904 ≤ v ∧ v ≤ 1099511627776 := by
      rw [hv]
      rcases (show i = 0 ∨ i = 1 ∨ i = 2 ∨ i = 3 by omega) with rfl | rfl | rfl | rfl <;> simp <;> omega
    dsimp only
    rw [← hv]
    clear hv
    go_wp2
    go_ret
    exact ⟨v, rfl, hvb.1, hvb.2, HS4.out, HG4.out⟩
  · have hq : (x == 0) = false := by simp [hx]
    go_wp2_with fail
    refine (next_ok (most + 1) (by omega) (by omega) _ HS2.out).mono ?_
    rintro e w4 ⟨y, rfl, y0, y1, S4, hg4⟩
    have HS4 := Lib.hid S4
    have HG4 := Lib.hid (gGo HG2.out hg4)
    clear S4 hg4
    go_wp2
    go_ret
    exact ⟨y, rfl, by omega, by omega, HS4.out, HG4.out⟩
end Go.Proofs.Ytbdhlokbpbiijaa
