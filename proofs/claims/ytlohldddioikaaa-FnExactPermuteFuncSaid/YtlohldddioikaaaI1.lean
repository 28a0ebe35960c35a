/-
  The two closures of PermuteFunc.
-/
import Derived.Test.YtlohldddioikaaaL5
namespace Go.Proofs.Ytlohldddioikaaa
open Go.RowKit
set_option linter.unusedVariables false

/-- What a permutation of the variables says, number by number: within 0..3. -/
def permI (xs : List Int) (i : Nat) : Nat := (xs[i]?.getD 0).toNat

set_option maxRecDepth 100000 in
set_option maxHeartbeats 1000000 in
theorem PermuteFunc2_any (br bp r g cap m i : Nat) (v : Nat) (hr : r < 62) (hv : v < 62) (him : i < m) (hm : m ≤ 4) (w : World) (hcr : w.cell? ⟨br, 0, none⟩ = some (.int .i64 (r : Int))) (hcp : w.cell? ⟨bp, 0, none⟩ = some (.slice (some ⟨g, 0, none⟩) m cap)) (hci : w.cell? ⟨g, i, none⟩ = some (.int .i64 (v : Int))) :
    Calls Try.prog 86 #[.int .i64 (i : Int), .pointer (some ⟨br, 0, none⟩), .pointer (some ⟨bp, 0, none⟩)] w fun e w' => e = .returned (.int .i64 (bitN r v : Int)) ∧ Below w.heap.size w w' := by
  go_enter Try.func86, Try.ntmps86
  go_wp2_with fail
  go_region_held3 (fun w' => w'.cell? ⟨br, 0, none⟩ = some (.int .i64 (r : Int)) ∧ w'.cell? ⟨bp, 0, none⟩ = some (.slice (some ⟨g, 0, none⟩) m cap) ∧ w'.cell? ⟨g, i, none⟩ = some (.int .i64 (v : Int))) (exact ⟨hcr, hcp, hci⟩)
    (first
      | (go_at_call 87; refine (digitOf_any _ _ (by omega) hv _).mono ?_; rintro e w' ⟨rfl, rfl⟩))
  go_wp2
  go_ret
  exact ⟨rfl, (Below.refl _ _).drew⟩

set_option maxRecDepth 100000 in
set_option maxHeartbeats 1000000 in
theorem PermuteFunc1_any (bf bp r g cap m x R : Nat) (pv : Nat → Nat) (ok : FOk (m : Int) x R) (hr : r < 62) (hm : m ≤ 4) (hp : ∀ i, i < m → pv i < 62) (w : World) (hf : FBox bf (m : Int) x w) (hcp : 0 < m → w.cell? ⟨bp, 0, none⟩ = some (.slice (some ⟨g, 0, none⟩) m cap)) (hci : ∀ i, i < m → w.cell? ⟨g, i, none⟩ = some (.int .i64 (pv i : Int))) :
    Calls Try.prog 84 #[.int .i64 (r : Int), .pointer (some ⟨bf, 0, none⟩), .pointer (some ⟨bp, 0, none⟩)] w fun e w' => e = .returned (.int .i64 (bitN x (sumN (fun i => bitN r (pv i)) m) : Int)) ∧ Below w.heap.size w w' := by
  have hx := ok.hx
  have hn4 := ok.h4
  have hrow : sumN (fun i => bitN r (pv i)) m < 62 := by
    have h1 := sumN_lt (fun i => bitN r (pv i)) m (fun i _ => bitN_le _ _)
    have h2 : (2 : Nat) ^ m ≤ 2 ^ 4 := Nat.pow_le_pow_right (by decide) hm
    omega
  obtain ⟨c0, c1⟩ := hf
  obtain ⟨W1, hW1⟩ : ∃ W1, w.alloc (.cells #[.int .i64 (r : Int)] 2) = W1 := ⟨_, rfl⟩
  have cr : W1.cell? ⟨w.heap.size, 0, none⟩ = some (.int .i64 (r : Int)) := by rw [← hW1]; simp [go_sem]
  have hB : Below w.heap.size w W1 := by rw [← hW1]; exact bnew _ _
  have RW := Lib.hid (fun W (hW : Below W1.heap.size W1 W) => rowWith_any m hm 86 #[.pointer (some ⟨w.heap.size, 0, none⟩), .pointer (some ⟨bp, 0, none⟩)] (enters_of Try.func86 (by kernel_rfl) rfl)
    (fun i => bitN r (pv i)) (fun i _ => bitN_le _ _) W (Lib.hid fun W' hW' i hi => PermuteFunc2_any w.heap.size bp r g cap m i (pv i) hr (hp i hi) hi hm W' (kc hW' (kc hW cr)) (kc hW' (kc hW (kc hB (hcp (by omega))))) (kc hW' (kc hW (kc hB (hci i hi))))))
  have d0 := kc hB c0
  have d1 := kc hB c1
  clear c0 c1 hci hcp
  go_enter Try.func84, Try.ntmps84
  go_wp2_with fail
  clear hW1
  go_region_held3 (fun w' => (w'.cell? ⟨bf, 0, none⟩ = some (.int .i64 (m : Int)) ∧ w'.cell? ⟨bf, 1, none⟩ = some (.int .i64 (x : Int))) ∧ Below W1.heap.size W1 w') (first | exact ⟨⟨d0, d1⟩, (Below.refl _ _).drew⟩ | exact step_heldW hb5 (by assumption))
    (first
      | (go_at_call 85; refine (RW.out _ (‹(_ ∧ _) ∧ Below W1.heap.size W1 _›).2).mono ?_; rintro e w5 ⟨rfl, hb5⟩)
      | (go_at_call 79; refine (valueInRow_any _ _ _ hx hrow _).mono ?_; rintro e w5 ⟨rfl, hb5⟩))
  have hB3 := bthen hB (‹(_ ∧ _) ∧ Below W1.heap.size W1 _›).2
  go_wp2
  go_ret
  exact ⟨rfl, hB3⟩
end Go.Proofs.Ytlohldddioikaaa
