/-
  A variable fixed: the program's closure.
-/
import Derived.Test.YtcolaggkeekgoaaC4
namespace Go.Proofs.Ytcolaggkeekgoaa
open Go.RowKit

/-- Where the row r of the lesser arity lies in the greater one, the variable i being v. -/
def insN (i v r : Nat) : Nat := ((r - r % 2 ^ i) * 2 ||| v <<< i) ||| r % 2 ^ i
/-- The function with the variable i fixed to v. -/
def fixN (n : Int) (x i v : Nat) : Nat := sumN (fun r => bitN x (insN i v r)) (2 ^ (n.toNat - 1))

theorem insN_lt (i v r : Nat) (hi : i < 4) (hv : v ≤ 1) (hr : r < 8) : insN i v r < 2 ^ 4 := by
  have h1 : v <<< i < 2 ^ 4 := by
    rw [Nat.shiftLeft_eq]
    have h3 : (2 : Nat) ^ i ≤ 2 ^ 3 := Nat.pow_le_pow_right (by decide) (by omega)
    have h4 : v * 2 ^ i ≤ 1 * 2 ^ i := Nat.mul_le_mul_right _ hv
    omega
  have h2 : r % 2 ^ i ≤ r := Nat.mod_le _ _
  exact Nat.or_lt_two_pow (Nat.or_lt_two_pow (by omega) h1) (by omega)

theorem ins_eq (i v r q : Nat) (hi : i < 4) (hv : v ≤ 1) (hr : r < 8) (hq : r % 2 ^ i = q) :
    bits .or .i64 (bits .or .i64 (IntKind.i64.wrap (((r : Int) - (q : Int)) * 2)) (IntKind.i64.wrap ((v : Int) * 2 ^ i))) (q : Int) = (insN i v r : Int) := by
  have h2 : q ≤ r := by rw [← hq]; exact Nat.mod_le _ _
  obtain ⟨e, h⟩ := shl_nat v i hv (by omega)
  have e1 : IntKind.i64.wrap (((r : Int) - (q : Int)) * 2) = (((r - q) * 2 : Nat) : Int) := by
    rw [wrap64_small (by omega) (by omega)]; omega
  have h1 : v <<< i < 2 ^ 4 := by
    rw [Nat.shiftLeft_eq]
    have h3 : (2 : Nat) ^ i ≤ 2 ^ 3 := Nat.pow_le_pow_right (by decide) (by omega)
    have h4 : v * 2 ^ i ≤ 1 * 2 ^ i := Nat.mul_le_mul_right _ hv
    omega
  have h5 : (r - q) * 2 ||| v <<< i < 2 ^ 4 := Nat.or_lt_two_pow (by omega) h1
  rw [e, e1, bits_or_nat _ _ (by omega) h, bits_or_nat _ _ (by omega) (by omega)]
  unfold insN
  rw [hq]

set_option maxRecDepth 100000 in
set_option maxHeartbeats 1000000 in
theorem Fixed1_any {n : Int} {x R : Nat} (ok : FOk n x R) (i v r : Nat) (hi : i < 4) (hv : v ≤ 1) (hr : r < 8) (b bi bv : Nat) (w : World) (hb : FBox b n x w)
    (cI : w.cell? ⟨bi, 0, none⟩ = some (.int .i64 (i : Int))) (cV : w.cell? ⟨bv, 0, none⟩ = some (.int .i64 (v : Int))) :
    Calls Try.prog 105 #[.int .i64 (r : Int), .pointer (some ⟨bi, 0, none⟩), .pointer (some ⟨b, 0, none⟩), .pointer (some ⟨bv, 0, none⟩)] w fun e w' => e = .returned (.int .i64 (bitN x (insN i v r) : Int)) ∧ Below w.heap.size w w' := by
  obtain ⟨c0, c1⟩ := hb
  obtain ⟨Q, hQ, q0, q16, hQe⟩ := rowsN_eq (n := (i : Int)) (by omega) (by omega)
  have hQ' := Lib.hid hQ
  clear hQ
  have ea := and_last hQe q16 r (by omega)
  have hq : r % Q ≤ r := Nat.mod_le _ _
  have hqe : r % 2 ^ i = r % Q := by rw [hQe]; simp
  generalize r % Q = q at ea hq hqe
  have vc : ∀ (W : World), Calls Try.prog 55 #[.agg #[.int .i64 n, .int .i64 (x : Int)], .int .i64 (bits .or .i64 (bits .or .i64 (IntKind.i64.wrap (((r : Int) - (q : Int)) * 2)) (IntKind.i64.wrap ((v : Int) * 2 ^ i))) (q : Int))] W fun e w' => e = .returned (.int .i64 (bitN x (insN i v r) : Int)) ∧ Below W.heap.size W w' := fun W => by
    rw [ins_eq i v r q hi hv hr hqe]
    exact valueInRow_any n x (insN i v r) ok.hx (by have := insN_lt i v r hi hv hr; omega) W
  have VC := Lib.hid vc
  clear hQe hqe vc
  go_enter Try.func105, Try.ntmps105
  go_wp2_with (go_at_call 62; refine (lastRow_is (by omega) (by omega) q0 q16 hQ' _).mono ?_; rintro e w' ⟨rfl, rfl⟩)
  go_region_held3 (fun w' => w'.cell? ⟨b, 0, none⟩ = some (.int .i64 n) ∧ w'.cell? ⟨b, 1, none⟩ = some (.int .i64 (x : Int)) ∧ w'.cell? ⟨bi, 0, none⟩ = some (.int .i64 (i : Int)) ∧ w'.cell? ⟨bv, 0, none⟩ = some (.int .i64 (v : Int))) (first | exact ⟨c0, c1, cI, cV⟩ | exact ⟨d0, d1, dI, dV⟩)
    (first
      | (go_at_call 55; refine (VC.out _).mono ?_; rintro e w' ⟨rfl, hb1⟩; have d0 := kcd hb1 c0; have d1 := kcd hb1 c1; have dI := kcd hb1 cI; have dV := kcd hb1 cV))
  go_wp2
  go_ret
  exact ⟨rfl, bthen (Below.refl w.heap.size w).drew hb1⟩

theorem FOk.lesser {n : Int} {x R : Nat} (ok : FOk n x R) (h1 : 1 ≤ n) : 0 < 2 ^ (n.toNat - 1) ∧ 2 ^ (n.toNat - 1) ≤ 8 ∧ Hid (rowsN (n - 1) = ((2 ^ (n.toNat - 1) : Nat) : Int)) := by
  have h4 := ok.h4
  refine ⟨Nat.two_pow_pos _, Nat.pow_le_pow_right (n := 2) (j := 3) (by decide) (by omega), Lib.hid ?_⟩
  show (2 : Int) ^ (n - 1).toNat = _
  rw [show (n - 1).toNat = n.toNat - 1 by omega]; push_cast; rfl

theorem fixRows {n : Int} {x R : Nat} (ok : FOk n x R) (h1 : 1 ≤ n) (i v : Nat) (hi : i < 4) (hv : v ≤ 1) (b bi bv : Nat) (W : World) (hb : FBox b n x W)
    (cI : W.cell? ⟨bi, 0, none⟩ = some (.int .i64 (i : Int))) (cV : W.cell? ⟨bv, 0, none⟩ = some (.int .i64 (v : Int))) :
    Calls Try.prog 53 #[.int .i64 (n - 1), .func (.func 105) #[] #[.pointer (some ⟨bi, 0, none⟩), .pointer (some ⟨b, 0, none⟩), .pointer (some ⟨bv, 0, none⟩)]] W fun e w' => e = .returned (.agg #[.int .i64 (n - 1), .int .i64 (fixN n x i v : Int)]) ∧ Below W.heap.size W w' := by
  obtain ⟨r0, r8, hR⟩ := ok.lesser h1
  have h4 := ok.h4
  have F := funcByRows_any (n - 1) (by omega) (by omega) (2 ^ (n.toNat - 1)) r0 (by omega) hR 105 #[.pointer (some ⟨bi, 0, none⟩), .pointer (some ⟨b, 0, none⟩), .pointer (some ⟨bv, 0, none⟩)] (enters_of Try.func105 (by kernel_rfl) rfl)
    (fun r => bitN x (insN i v r)) (fun r _ => bitN_le _ _) W (Lib.hid fun W' hW r hr => Fixed1_any ok i v r hi hv (by omega) b bi bv W' (hb.keep hW) (kc hW cI) (kc hW cV))
  rwa [orBits_sum r0 _ (fun r _ => bitN_le _ _)] at F

set_option maxRecDepth 100000 in
set_option maxHeartbeats 1000000 in
theorem fixed_any {n : Int} {x R : Nat} (ok : FOk n x R) (h1 : 1 ≤ n) (i v : Nat) (hi : i < 4) (hv : v ≤ 1) (w : World) :
    Calls Try.prog 97 #[.agg #[.int .i64 n, .int .i64 (x : Int)], .int .i64 (i : Int), .int .i64 (v : Int)] w fun e w' => e = .returned (.agg #[.int .i64 (n - 1), .int .i64 (fixN n x i v : Int)]) ∧ Below w.heap.size w w' := by
  have h4 := ok.h4
  obtain ⟨W1, hW1⟩ : ∃ W1, (((w.alloc (.cells #[.int .i64 n, .int .i64 (x : Int)] 24)).alloc (.cells #[.int .i64 (i : Int)] 2)).alloc (.cells #[.int .i64 (v : Int)] 2)).alloc (.cells #[.int .i64 0, .int .i64 0] 24) = W1 := ⟨_, rfl⟩
  have p0 : W1.cell? ⟨w.heap.size, 0, none⟩ = some (.int .i64 n) := by rw [← hW1]; simp [go_sem]
  have p1 : W1.cell? ⟨w.heap.size, 1, none⟩ = some (.int .i64 (x : Int)) := by rw [← hW1]; simp [go_sem]
  have cI : W1.cell? ⟨w.heap.size + 1, 0, none⟩ = some (.int .i64 (i : Int)) := by rw [← hW1]; simp [go_sem]
  have cV : W1.cell? ⟨w.heap.size + 1 + 1, 0, none⟩ = some (.int .i64 (v : Int)) := by rw [← hW1]; simp [go_sem]
  have c0 : W1.cell? ⟨w.heap.size + 1 + 1 + 1, 0, none⟩ = some (.int .i64 0) := by rw [← hW1]; simp [go_sem]
  have c1 : W1.cell? ⟨w.heap.size + 1 + 1 + 1, 1, none⟩ = some (.int .i64 0) := by rw [← hW1]; simp [go_sem]
  have f0 : W1.frozen? ⟨w.heap.size + 1 + 1 + 1, 0, none⟩ = false := by rw [← hW1]; simp [go_sem]
  have f1 : W1.frozen? ⟨w.heap.size + 1 + 1 + 1, 1, none⟩ = false := by rw [← hW1]; simp [go_sem]
  have hB : Below w.heap.size w W1 := by rw [← hW1]; exact balloc (balloc (balloc (bnew _ _) _) _) _
  go_enter Try.func97, Try.ntmps97
  go_wp2_with (first
    | (go_at_call 53; refine (fixRows ok h1 i v hi hv w.heap.size (w.heap.size + 1) (w.heap.size + 1 + 1) _ ⟨p0, p1⟩ cI cV).mono ?_; rintro e w3 ⟨rfl, hb3⟩; have e0 := kc hb3 c0; have e1 := kc hb3 c1; have k0 := kf hb3 c0 f0; have k1 := kf hb3 c1 f1; have hB3 := bthen hB hb3))
  exact bodyPost_ret (v := .agg #[.int .i64 (n - 1), .int .i64 (fixN n x i v : Int)]) (by simp [results, Try.results97, go_sem, e0, e1]) rfl ⟨rfl, (hB3.setCell (p := ⟨w.heap.size + 1 + 1 + 1, 0, none⟩) (by simp; omega) _).setCell (p := ⟨w.heap.size + 1 + 1 + 1, 1, none⟩) (by simp; omega) _⟩
end Go.Proofs.Ytcolaggkeekgoaa
