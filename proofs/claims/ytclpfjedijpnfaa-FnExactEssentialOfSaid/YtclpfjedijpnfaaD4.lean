/-
  Essential variables: the test, in both packages.
-/
import Derived.Test.YtclpfjedijpnfaaD2
namespace Go.Proofs.Ytclpfjedijpnfaa
open Go.RowKit

theorem fixed_int {n : Int} {x R : Nat} (ok : FOk n x R) (h1 : 1 ≤ n) (i : Nat) (hi : i < 4) (v : Int) (hv : v = 0 ∨ v = 1) (w : World) :
    Calls Try.prog 96 #[.agg #[.int .i64 n, .int .i64 (x : Int)], .int .i64 (i : Int), .int .i64 v] w fun e w' => e = .returned (.agg #[.int .i64 (n - 1), .int .i64 (fixN n x i v.toNat : Int)]) ∧ Below w.heap.size w w' := by
  rcases hv with rfl | rfl
  · exact fixed_any ok h1 i 0 hi (by omega) w
  · exact fixed_any ok h1 i 1 hi (by omega) w

theorem step_held {W w' w : World} {a b : Addr} {u v : Value} (hb : Below W.heap.size W w') (h : (W.cell? a = some u ∧ W.cell? b = some v) ∧ Below w.heap.size w W) :
    (w'.cell? a = some u ∧ w'.cell? b = some v) ∧ Below w.heap.size w w' := ⟨⟨kc hb h.1.1, kc hb h.1.2⟩, bthen h.2 hb⟩

set_option maxRecDepth 100000 in
set_option maxHeartbeats 1000000 in
theorem isEssential_any {n : Int} {x R : Nat} (ok : FOk n x R) (i : Nat) (hin : (i : Int) < n) (w : World) :
    Calls Try.prog 95 #[.agg #[.int .i64 n, .int .i64 (x : Int)], .int .i64 (i : Int)] w fun e w' => e = .returned (.bool (fixN n x i 0 != fixN n x i 1)) ∧ Below w.heap.size w w' := by
  have h4 := ok.h4
  obtain ⟨W1, hW1⟩ : ∃ W1, w.alloc (.cells #[.int .i64 n, .int .i64 (x : Int)] 25) = W1 := ⟨_, rfl⟩
  have p0 : W1.cell? ⟨w.heap.size, 0, none⟩ = some (.int .i64 n) := by rw [← hW1]; simp [go_sem]
  have p1 : W1.cell? ⟨w.heap.size, 1, none⟩ = some (.int .i64 (x : Int)) := by rw [← hW1]; simp [go_sem]
  have hB : Below w.heap.size w W1 := by rw [← hW1]; exact bnew _ _
  go_enter Try.func95, Try.ntmps95
  go_wp2
  clear hW1
  by_cases hne : fixN n x i 0 = fixN n x i 1
  · have he1 : ((fixN n x i 0 : Int) == (fixN n x i 1 : Int)) = true := by simp [hne]
    have hres : (fixN n x i 0 != fixN n x i 1) = false := by simp [hne]
    have HR := Lib.hid hres
    clear hres hne
    go_region_held3 (fun w' => (w'.cell? ⟨w.heap.size, 0, none⟩ = some (.int .i64 n) ∧ w'.cell? ⟨w.heap.size, 1, none⟩ = some (.int .i64 (x : Int))) ∧ Below w.heap.size w w') (first | exact ⟨⟨p0, p1⟩, hB.drew⟩ | exact step_held hb1 (by assumption))
      (first
        | (go_at_call 96; refine (fixed_int ok (by omega) i (by omega) _ (by first | exact .inl rfl | exact .inr rfl) _).mono ?_; rintro e w' ⟨rfl, hb1⟩)) 
    go_wp2
    go_ret
    exact ⟨by rw [HR.out]; rfl, (‹(_ ∧ _) ∧ Below _ _ _›).2⟩
  · have he1 : ((fixN n x i 0 : Int) == (fixN n x i 1 : Int)) = false := by simp; omega
    have hres : (fixN n x i 0 != fixN n x i 1) = true := by simp [hne]
    have HR := Lib.hid hres
    clear hres hne
    go_region_held3 (fun w' => (w'.cell? ⟨w.heap.size, 0, none⟩ = some (.int .i64 n) ∧ w'.cell? ⟨w.heap.size, 1, none⟩ = some (.int .i64 (x : Int))) ∧ Below w.heap.size w w') (first | exact ⟨⟨p0, p1⟩, hB.drew⟩ | exact step_held hb1 (by assumption))
      (first
        | (go_at_call 96; refine (fixed_int ok (by omega) i (by omega) _ (by first | exact .inl rfl | exact .inr rfl) _).mono ?_; rintro e w' ⟨rfl, hb1⟩)) 
    go_wp2
    go_ret
    exact ⟨by rw [HR.out]; rfl, (‹(_ ∧ _) ∧ Below _ _ _›).2⟩

theorem l01Fix_int {n : Int} {x R : Nat} (ok : FOk n x R) (i : Nat) (hin : (i : Int) < n) (v : Int) (hv : v = 0 ∨ v = 1) (w : World) :
    Calls Try.prog 133 #[.agg #[.int .i64 n, .int .i64 (x : Int)], .int .i64 (i : Int), .int .i64 v] w fun e w' => e = .returned (.agg #[.int .i64 (n - 1), .int .i64 (fixN n x i v.toNat : Int)]) ∧ Below w.heap.size w w' := by
  rcases hv with rfl | rfl
  · exact l01Fix_any ok i 0 hin (by omega) w
  · exact l01Fix_any ok i 1 hin (by omega) w

/-- A fixed function is a function. -/
theorem FOk.fixed {n : Int} {x R : Nat} (ok : FOk n x R) (h1 : 1 ≤ n) (i v : Nat) : FOk (n - 1) (fixN n x i v) (2 ^ (n.toNat - 1)) := by
  obtain ⟨z0, z8, zR⟩ := ok.lesser h1
  have h4 := ok.h4
  have hlt := sumN_lt (fun r => bitN x (insN i v r)) (2 ^ (n.toNat - 1)) (fun r _ => bitN_le _ _)
  have h16 : (2 : Nat) ^ 2 ^ (n.toNat - 1) ≤ 2 ^ 16 := Nat.pow_le_pow_right (by decide) (by omega)
  exact ⟨by omega, by omega, z0, by omega, zR, by unfold fixN; omega, by rw [show (n - 1).toNat = n.toNat - 1 by omega], hlt⟩
end Go.Proofs.Ytclpfjedijpnfaa
