/-
  NameOf in the model.
-/
import Derived.Test.YtkemegiofiemfabX3
import Derived.Test.YtkemegiofiemfabU4
import Derived.Deep.RegionHeld3
namespace Go.Proofs.Ytkemegiofiemfab
open Go.RowKit
set_option linter.unusedVariables false
set_option linter.unusedSimpArgs false

def txK (i : Nat) : List UInt8 := (txL[i]?).getD []
def nmP (i : Nat) : Int × Int := (nmL[i]?.map (·.2)).getD (5, 5)

theorem tx0 : ∀ x, x < 2 → ∀ i, i < 14 → (txK i == txtL 0 x 1) = (nmP i == (0, (x : Int))) := by decide +kernel
theorem tx1 : ∀ x, x < 4 → ∀ i, i < 14 → (txK i == txtL 1 x 2) = (nmP i == (1, (x : Int))) := by decide +kernel
theorem tx2 : ∀ x, x < 16 → ∀ i, i < 14 → (txK i == txtL 2 x 4) = (nmP i == (2, (x : Int))) := by decide +kernel
theorem tx3 : ∀ x, x < 256 → ∀ i, i < 14 → (txK i == txtL 3 x 8) = (nmP i == (3, (x : Int))) := by decide +kernel
theorem tx4a : ∀ i, i < 14 → (txK i).head? ≠ some 52 := by decide +kernel
theorem tx4b : ∀ i, i < 14 → (nmP i).1 ≠ 4 := by decide +kernel
theorem tx4 (x R : Nat) (i : Nat) (h : i < 14) : (txK i == txtL 4 x R) = (nmP i == (4, (x : Int))) := by
  have h1 := tx4a i h
  have h2 := tx4b i h
  have e1 : (txK i == txtL 4 x R) = false := by
    rw [beq_eq_false_iff_ne]
    intro e
    rw [e] at h1
    exact h1 rfl
  have e2 : (nmP i == (4, (x : Int))) = false := by
    rw [beq_eq_false_iff_ne]
    intro e
    rw [e] at h2
    exact h2 rfl
  rw [e1, e2]

theorem tx_cmp {n : Int} {x R : Nat} (ok : FOk n x R) (i : Nat) (hi : i < 14) : ((txAt i).toList == (txtS n.toNat x R).toList) = (nmP i == (n, (x : Int))) := by
  rw [Lib.toList_data, Lib.toList_data]
  show (txK i == txtL n.toNat x R) = _
  have he := ok.he
  have hB := ok.hB
  rcases five ok.h0 ok.h4 with rfl | rfl | rfl | rfl | rfl
  · obtain rfl : R = 1 := he
    exact tx0 x hB i hi
  · obtain rfl : R = 2 := he
    exact tx1 x hB i hi
  · obtain rfl : R = 4 := he
    exact tx2 x hB i hi
  · obtain rfl : R = 8 := he
    exact tx3 x hB i hi
  · exact tx4 x R i hi

set_option maxRecDepth 100000 in
set_option maxHeartbeats 1000000 in
theorem specNameOf_no {n b : Int} (h : isF n b = false) (w : World) :
    Calls Try.prog 24 #[.agg #[.int .i64 n, .int .i64 b]] w fun e w' => e = .returned (.tuple #[.string ⟨#[]⟩, .int .i64 1]) ∧ Below w.heap.size w w' := by
  obtain ⟨W1, hW1⟩ : ∃ W1, w.alloc (.cells #[.int .i64 n, .int .i64 b] 26) = W1 := ⟨_, rfl⟩
  have p0 : W1.cell? ⟨w.heap.size, 0, none⟩ = some (.int .i64 n) := by rw [← hW1]; simp [go_sem]
  have p1 : W1.cell? ⟨w.heap.size, 1, none⟩ = some (.int .i64 b) := by rw [← hW1]; simp [go_sem]
  have hB : Below w.heap.size w W1 := by rw [← hW1]; exact bnew _ _
  go_enter Try.func24, Try.ntmps24
  go_wp2_with (first
    | (go_at_call 73; refine (l01Is_is h _).mono ?_; rintro e w2 ⟨rfl, hb⟩; have hB2 := bthen hB hb))
  go_ret2
  exact ⟨rfl, hB2⟩

theorem keepN {W W' : World} {a b : Addr} {u v : Value} {g : Nat} {t : Value} {i : Nat} {w : World} (hb : Below W.heap.size W W') (h : ((W.cell? a = some u ∧ W.cell? b = some v) ∧ W.cell? ⟨g, i, none⟩ = some t) ∧ Below w.heap.size w W) :
    ((W'.cell? a = some u ∧ W'.cell? b = some v) ∧ W'.cell? ⟨g, i, none⟩ = some t) ∧ Below w.heap.size w W' := ⟨⟨⟨kc hb h.1.1.1, kc hb h.1.1.2⟩, kc hb h.1.2⟩, bthen h.2 hb⟩

set_option maxRecDepth 100000 in
set_option maxHeartbeats 4000000 in
/-- k: the place where the loop ends: a place of the list, or its end. -/
theorem specNameOf_yes {n : Int} {x R : Nat} (ok : FOk n x R) (h : isF n (x : Int) = true) {k : Nat} (hk : k ≤ 14) (hb : ∀ j, j < k → (nmP j == (n, (x : Int))) = false) (he : k < 14 → (nmP k == (n, (x : Int))) = true) (w : World) :
    Calls Try.prog 24 #[.agg #[.int .i64 n, .int .i64 (x : Int)]] w fun e w' => e = .returned (.tuple #[.string (if k < 14 then nmAt k else ⟨#[]⟩), .int .i64 (if k < 14 then 0 else 4)]) ∧ Below w.heap.size w w' := by
  obtain ⟨W1, hW1⟩ : ∃ W1, w.alloc (.cells #[.int .i64 n, .int .i64 (x : Int)] 26) = W1 := ⟨_, rfl⟩
  have p0 : W1.cell? ⟨w.heap.size, 0, none⟩ = some (.int .i64 n) := by rw [← hW1]; simp [go_sem]
  have p1 : W1.cell? ⟨w.heap.size, 1, none⟩ = some (.int .i64 (x : Int)) := by rw [← hW1]; simp [go_sem]
  have hB : Below w.heap.size w W1 := by rw [← hW1]; exact bnew _ _
  have T := Lib.hid fun W => l01Text_any ok W
  have CM := Lib.hid fun i hi => tx_cmp ok i hi
  have HB := Lib.hid hb
  have HE := Lib.hid he
  clear hb he
  go_enter Try.func24, Try.ntmps24
  go_wp2_with (first
    | (go_at_call 73; refine (l01Is_is h _).mono ?_; rintro e w2 ⟨rfl, hb⟩; have q0 := kc hb p0; have q1 := kc hb p1; have hB2 := bthen hB hb)
    | (go_at_call 89; refine (l01Names_any _).mono ?_; rintro e' w3 ⟨rfl, hn, hb3⟩; have r0 := kc hb3 q0; have r1 := kc hb3 q1; have hB3 := bthen hB2 hb3)
    | (go_at_call 90; refine (l01Known_any _).mono ?_; rintro e' w4 ⟨rfl, ht, hb4⟩; have s0 := kc hb4 r0; have s1 := kc hb4 r1; have hB4 := bthen hB3 hb4))
  have hn4 : Hid (∀ i, i < 14 → w4.cell? ⟨w2.heap.size, i, none⟩ = some (.string (nmAt i))) := Lib.hid fun i hi => kc hb4 (hn.out i hi)
  clear hn hb3 hb4 r0 r1 q0 q1 hB hB2 hB3 p0 p1 hW1
  go_loopw [6] (fun i' wr => ∃ i : Nat, i ≤ k ∧ i' = .int .i64 i ∧ Below w4.heap.size w4 wr) (fun i' _ => 14 - (intOf i').toNat)
  case atStart => exact ⟨0, Nat.zero_le _, rfl, Below.refl _ _⟩
  case round =>
    obtain ⟨i, hi, rfl, hN⟩ := hrel
    have c0 := kc hN s0
    have c1 := kc hN s1
    by_cases hlt : i < 14
    · have hi14 : (i : Int) < 14 := by omega
      have hi0 : (0 : Int) ≤ (i : Int) := by omega
      have hc := kc hN (hn4.out i hlt)
      have ht' := kc hN (ht.out i hlt)
      have hcm := CM.out i hlt
      by_cases hik : i < k
      · rw [HB.out i hik] at hcm
        go_wp2_with fail
        go_region_held3 (fun w' => ((w'.cell? ⟨w.heap.size, 0, none⟩ = some (.int .i64 n) ∧ w'.cell? ⟨w.heap.size, 1, none⟩ = some (.int .i64 (x : Int))) ∧ w'.cell? ⟨w3.heap.size, i, none⟩ = some (.string (txAt i))) ∧ Below wr.heap.size wr w') (first | exact ⟨⟨⟨c0, c1⟩, ht'⟩, (Below.refl _ _).drew⟩ | exact keepN hb5 (by assumption))
          (first
            | (go_at_call 93; refine (T.out _).mono ?_; rintro e w5 ⟨rfl, hb5⟩))
        have hN5 := bthen hN (‹((_ ∧ _) ∧ _) ∧ Below wr.heap.size wr _›).2
        go_wp2
        go_roundw
        case rel => exact ⟨i + 1, by omega, by go_num, hN5⟩
        case measure => simp [intOf]; omega
      · obtain rfl : i = k := by omega
        rw [HE.out hlt] at hcm
        go_wp2_with fail
        go_region_held3 (fun w' => ((w'.cell? ⟨w.heap.size, 0, none⟩ = some (.int .i64 n) ∧ w'.cell? ⟨w.heap.size, 1, none⟩ = some (.int .i64 (x : Int))) ∧ w'.cell? ⟨w3.heap.size, i, none⟩ = some (.string (txAt i))) ∧ Below wr.heap.size wr w') (first | exact ⟨⟨⟨c0, c1⟩, ht'⟩, (Below.refl _ _).drew⟩ | exact keepN hb5 (by assumption))
          (first
            | (go_at_call 93; refine (T.out _).mono ?_; rintro e w5 ⟨rfl, hb5⟩))
        have hN5 := bthen hN (‹((_ ∧ _) ∧ _) ∧ Below wr.heap.size wr _›).2
        have hc5 := kc hN5 (hn4.out i hlt)
        go_wp2
        go_ret2
        exact ⟨rfl, bthen hB4 hN5⟩
    · obtain rfl : i = 14 := by omega
      obtain rfl : k = 14 := by omega
      go_wp2
      go_ret2
      exact ⟨rfl, bthen hB4 hN⟩
end Go.Proofs.Ytkemegiofiemfab
