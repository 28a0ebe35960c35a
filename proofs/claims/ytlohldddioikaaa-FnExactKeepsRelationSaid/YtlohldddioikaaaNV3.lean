/-
  KeepsRelation in both packages.
-/
import Derived.Test.YtlohldddioikaaaNV2
import Derived.Test.YtlohldddioikaaaNK2
import Derived.Test.YtlohldddioikaaaK2
namespace Go.Proofs.Ytlohldddioikaaa
open Go.RowKit
set_option linter.unusedVariables false
set_option linter.unusedSimpArgs false

theorem keeps_andNot {x y m P Q : Nat} (hQ : Q = 2 ^ P) (hQ16 : Q ≤ 16) : (bits .andNot .i64 (orL 0 (madeL x P (tupsL y Q) [] m) : Int) (y : Int) == 0) = keepsN x y m P := by
  have hl : orL 0 (madeL x P (tupsL y Q) [] m) < 2 ^ Q := orL_lt (Nat.two_pow_pos Q) (fun t ht => by rw [hQ]; exact madeL_lt ht)
  have h := andNot_no Q _ y hQ16 hl
  have e : (bits .andNot .i64 (orL 0 (madeL x P (tupsL y Q) [] m) : Int) (y : Int) == 0) = allLt Q fun r => !(bitN (orL 0 (madeL x P (tupsL y Q) [] m)) r == 1 && bitN y r == 0) := by
    have h2 : (bits .andNot .i64 (orL 0 (madeL x P (tupsL y Q) [] m) : Int) (y : Int) == 0) = !(bits .andNot .i64 (orL 0 (madeL x P (tupsL y Q) [] m) : Int) (y : Int) != 0) := by simp [bne]
    rw [h2, h, Bool.not_not]
  rw [e, Bool.eq_iff_iff, allLt_iff]
  unfold keepsN
  rw [← hQ, List.all_eq_true]
  have hb : ∀ r, bitN (orL 0 (madeL x P (tupsL y Q) [] m)) r = 1 ↔ r ∈ madeL x P (tupsL y Q) [] m := fun r => by
    rw [bitN_testBit, orL_bit, Nat.zero_testBit, Bool.false_or]
    by_cases hm : r ∈ madeL x P (tupsL y Q) [] m
    · have hc : (madeL x P (tupsL y Q) [] m).contains r = true := by simpa using hm
      rw [hc]; simp [hm]
    · have hc : (madeL x P (tupsL y Q) [] m).contains r = false := by simpa using hm
      rw [hc]; simp [hm]
  constructor
  · intro hall t ht
    have h1 := hall t (by rw [hQ]; exact madeL_lt ht)
    rw [(hb t).2 ht] at h1
    have := bitN_le y t
    rw [beq_iff_eq]
    rcases (show bitN y t = 0 ∨ bitN y t = 1 by omega) with e0 | e1
    · rw [e0] at h1; simp at h1
    · exact e1
  · intro hall r hr
    by_cases h1 : bitN (orL 0 (madeL x P (tupsL y Q) [] m)) r = 1
    · have h2 := hall r ((hb r).1 h1)
      rw [beq_iff_eq] at h2
      rw [h2]; simp
    · simp [h1]

set_option maxRecDepth 100000 in
set_option maxHeartbeats 8000000 in
theorem l06Keeps_any {x R k : Nat} (ok : FOk (k : Int) x R) (k4 : k ≤ 4) {P y Q : Nat} (okr : ROk (P : Int) y Q) (w : World) :
    Calls Try.prog 60 #[.agg #[.int .i64 k, .int .i64 x], .agg #[.int .i64 P, .int .i64 y]] w fun e w' => e = .returned (.bool (keepsN x y k P)) ∧ Below w.heap.size w w' := by
  have hQ : Q = 2 ^ P := by have := okr.he; simpa using this
  have hQ16 := okr.r16
  have htl := tupsL_len y Q
  have hke := keeps_andNot (x := x) (y := y) (m := k) hQ hQ16
  have LST := Lib.hid (fun W => l06List_any okr.toFOk W)
  have MADE : Hid (∀ (W : World) (s : Value) (g : Nat), Owns W 0 s (nI (tupsL y Q)) → Calls Try.prog 69 #[.agg #[.int .i64 k, .int .i64 (x : Int)], .agg #[.int .i64 P, .int .i64 (y : Int)], s, .slice (some ⟨g, 0, none⟩) 0 0] W fun e w' => e = .returned (.int .i64 (orL 0 (madeL x P (tupsL y Q) [] k) : Int)) ∧ Below W.heap.size W w') := Lib.hid fun W s g ho =>
    l06Made_any ok k4 okr (tupsL y Q) (by omega) (fun a ha => by have := (tupsL_mem.1 ha).1; omega) k [] g 0 s W (by simp) (fun a ha => by simp at ha) ho (Lib.hid fun j hj => by simp at hj)
  generalize orL 0 (madeL x P (tupsL y Q) [] k) = om at hke MADE
  obtain ⟨W1, hW1⟩ : ∃ W1, (w.alloc (.cells #[.int .i64 (k : Int), .int .i64 (x : Int)] 34)).alloc (.cells #[.int .i64 (P : Int), .int .i64 (y : Int)] 25) = W1 := ⟨_, rfl⟩
  have p0 : W1.cell? ⟨w.heap.size, 0, none⟩ = some (.int .i64 (k : Int)) := by rw [← hW1]; simp [go_sem]
  have p1 : W1.cell? ⟨w.heap.size, 1, none⟩ = some (.int .i64 (x : Int)) := by rw [← hW1]; simp [go_sem]
  have r0 : W1.cell? ⟨w.heap.size + 1, 0, none⟩ = some (.int .i64 (P : Int)) := by rw [← hW1]; simp [go_sem]
  have r1 : W1.cell? ⟨w.heap.size + 1, 1, none⟩ = some (.int .i64 (y : Int)) := by rw [← hW1]; simp [go_sem]
  have hB : Below w.heap.size w W1 := by rw [← hW1]; exact balloc (bnew _ _) _
  have MK : Hid (∀ W : World, Below W1.heap.size W1 W → (((W.cell? ⟨w.heap.size, 0, none⟩ = some (.int .i64 (k : Int)) ∧ W.cell? ⟨w.heap.size, 1, none⟩ = some (.int .i64 (x : Int))) ∧ (W.cell? ⟨w.heap.size + 1, 0, none⟩ = some (.int .i64 (P : Int)) ∧ W.cell? ⟨w.heap.size + 1, 1, none⟩ = some (.int .i64 (y : Int)))) ∧ Below W1.heap.size W1 W)) := Lib.hid fun W h => ⟨⟨⟨kc h p0, kc h p1⟩, ⟨kc h r0, kc h r1⟩⟩, h⟩
  have STH : Hid (∀ W W' : World, Below W.heap.size W W' → (((W.cell? ⟨w.heap.size, 0, none⟩ = some (.int .i64 (k : Int)) ∧ W.cell? ⟨w.heap.size, 1, none⟩ = some (.int .i64 (x : Int))) ∧ (W.cell? ⟨w.heap.size + 1, 0, none⟩ = some (.int .i64 (P : Int)) ∧ W.cell? ⟨w.heap.size + 1, 1, none⟩ = some (.int .i64 (y : Int)))) ∧ Below W1.heap.size W1 W) → (((W'.cell? ⟨w.heap.size, 0, none⟩ = some (.int .i64 (k : Int)) ∧ W'.cell? ⟨w.heap.size, 1, none⟩ = some (.int .i64 (x : Int))) ∧ (W'.cell? ⟨w.heap.size + 1, 0, none⟩ = some (.int .i64 (P : Int)) ∧ W'.cell? ⟨w.heap.size + 1, 1, none⟩ = some (.int .i64 (y : Int)))) ∧ Below W1.heap.size W1 W')) := Lib.hid fun W W' h hs => MK.out W' (bthen hs.2 h)
  clear hQ htl
  go_enter Try.func60, Try.ntmps60
  go_wp2
  clear hW1
  go_region_held3 (fun W => ((W.cell? ⟨w.heap.size, 0, none⟩ = some (.int .i64 (k : Int)) ∧ W.cell? ⟨w.heap.size, 1, none⟩ = some (.int .i64 (x : Int))) ∧ (W.cell? ⟨w.heap.size + 1, 0, none⟩ = some (.int .i64 (P : Int)) ∧ W.cell? ⟨w.heap.size + 1, 1, none⟩ = some (.int .i64 (y : Int)))) ∧ Below W1.heap.size W1 W)
    (first | with_reducible exact MK.out _ (Below.refl _ _).drew | with_reducible exact MK.out _ (bnew _ _).drew | (with_reducible refine STH.out _ _ hb5 ?_; with_reducible assumption) | (with_reducible refine STH.out _ _ (bnew _ _) ?_; with_reducible assumption) | with_reducible assumption)
    (first
      | (go_at_call 57; refine (LST.out _).mono ?_; rintro e w5 ⟨s5, rfl, O5, hb5⟩; have T5 := STH.out _ _ hb5 (by with_reducible assumption); have O6 := Owns.mono O5 (Nat.zero_le _))
      | (go_at_call 69; refine (MADE.out _ _ _ (by first | exact O6 | exact O6.below (bnew _ _))).mono ?_; rintro e w8 ⟨rfl, hb5⟩; have T8 := STH.out _ _ hb5 (by with_reducible assumption)))
  all_goals
    have hb9 := bthen hB T8.2
    clear T8 O5 O6
    go_wp2
    go_ret
    exact ⟨rfl, hb9⟩

set_option maxRecDepth 100000 in
set_option maxHeartbeats 4000000 in
theorem implKeeps_a {n0 b0 n1 b1 : Int} (h0 : isF n0 b0 = false) (w : World) :
    Calls Try.prog 22 #[.agg #[.int .i64 n0, .int .i64 b0], .agg #[.int .i64 n1, .int .i64 b1]] w fun e w' => e = .returned (.tuple #[.bool false, .int .i64 1]) ∧ Below w.heap.size w w' := by
  obtain ⟨W1, hW1⟩ : ∃ W1, (w.alloc (.cells #[.int .i64 n0, .int .i64 b0] 34)).alloc (.cells #[.int .i64 n1, .int .i64 b1] 25) = W1 := ⟨_, rfl⟩
  have p0 : W1.cell? ⟨w.heap.size, 0, none⟩ = some (.int .i64 n0) := by rw [← hW1]; simp [go_sem]
  have p1 : W1.cell? ⟨w.heap.size, 1, none⟩ = some (.int .i64 b0) := by rw [← hW1]; simp [go_sem]
  have r0 : W1.cell? ⟨w.heap.size + 1, 0, none⟩ = some (.int .i64 n1) := by rw [← hW1]; simp [go_sem]
  have r1 : W1.cell? ⟨w.heap.size + 1, 1, none⟩ = some (.int .i64 b1) := by rw [← hW1]; simp [go_sem]
  have hB : Below w.heap.size w W1 := by rw [← hW1]; exact balloc (bnew _ _) _
  go_enter Try.func22, Try.ntmps22
  go_wp2_with fail
  clear hW1
  refine (IsFunc_is h0 _).mono ?_
  rintro e w2 ⟨rfl, hb2⟩
  have qp0 := kc hb2 p0
  have qp1 := kc hb2 p1
  have qr0 := kc hb2 r0
  have qr1 := kc hb2 r1
  clear p0 p1 r0 r1
  have hB2 := bthen hB hb2
  go_wp2
  go_ret2
  exact ⟨rfl, hB2⟩

set_option maxRecDepth 100000 in
set_option maxHeartbeats 4000000 in
theorem implKeeps_b {n0 b0 n1 b1 : Int} (h0 : isF n0 b0 = true) (h1 : isR n1 b1 = false) (w : World) :
    Calls Try.prog 22 #[.agg #[.int .i64 n0, .int .i64 b0], .agg #[.int .i64 n1, .int .i64 b1]] w fun e w' => e = .returned (.tuple #[.bool false, .int .i64 1]) ∧ Below w.heap.size w w' := by
  obtain ⟨W1, hW1⟩ : ∃ W1, (w.alloc (.cells #[.int .i64 n0, .int .i64 b0] 34)).alloc (.cells #[.int .i64 n1, .int .i64 b1] 25) = W1 := ⟨_, rfl⟩
  have p0 : W1.cell? ⟨w.heap.size, 0, none⟩ = some (.int .i64 n0) := by rw [← hW1]; simp [go_sem]
  have p1 : W1.cell? ⟨w.heap.size, 1, none⟩ = some (.int .i64 b0) := by rw [← hW1]; simp [go_sem]
  have r0 : W1.cell? ⟨w.heap.size + 1, 0, none⟩ = some (.int .i64 n1) := by rw [← hW1]; simp [go_sem]
  have r1 : W1.cell? ⟨w.heap.size + 1, 1, none⟩ = some (.int .i64 b1) := by rw [← hW1]; simp [go_sem]
  have hB : Below w.heap.size w W1 := by rw [← hW1]; exact balloc (bnew _ _) _
  go_enter Try.func22, Try.ntmps22
  go_wp2_with fail
  clear hW1
  refine (IsFunc_is h0 _).mono ?_
  rintro e w2 ⟨rfl, hb2⟩
  have qp0 := kc hb2 p0
  have qp1 := kc hb2 p1
  have qr0 := kc hb2 r0
  have qr1 := kc hb2 r1
  clear p0 p1 r0 r1
  have hB2 := bthen hB hb2
  go_wp2_with fail
  refine (IsRelation_is h1 _).mono ?_
  rintro e w3 ⟨rfl, hb3⟩
  have sp0 := kc hb3 qp0
  have sp1 := kc hb3 qp1
  have sr0 := kc hb3 qr0
  have sr1 := kc hb3 qr1
  clear qp0 qp1 qr0 qr1
  have hB3 := bthen hB2 hb3
  go_wp2
  go_ret2
  exact ⟨rfl, hB3⟩

set_option maxRecDepth 100000 in
set_option maxHeartbeats 4000000 in
theorem implKeeps_c {x R0 k : Nat} (ok : FOk (k : Int) x R0) (k4 : k ≤ 4) {P y Q : Nat} (okr : ROk (P : Int) y Q) (w : World) :
    Calls Try.prog 22 #[.agg #[.int .i64 (k : Int), .int .i64 (x : Int)], .agg #[.int .i64 (P : Int), .int .i64 (y : Int)]] w fun e w' => e = .returned (.tuple #[.bool (keepsN x y k P), .int .i64 0]) ∧ Below w.heap.size w w' := by
  have h0 := ok.is
  have h1 := okr.is
  obtain ⟨W1, hW1⟩ : ∃ W1, (w.alloc (.cells #[.int .i64 (k : Int), .int .i64 (x : Int)] 34)).alloc (.cells #[.int .i64 (P : Int), .int .i64 (y : Int)] 25) = W1 := ⟨_, rfl⟩
  have p0 : W1.cell? ⟨w.heap.size, 0, none⟩ = some (.int .i64 (k : Int)) := by rw [← hW1]; simp [go_sem]
  have p1 : W1.cell? ⟨w.heap.size, 1, none⟩ = some (.int .i64 (x : Int)) := by rw [← hW1]; simp [go_sem]
  have r0 : W1.cell? ⟨w.heap.size + 1, 0, none⟩ = some (.int .i64 (P : Int)) := by rw [← hW1]; simp [go_sem]
  have r1 : W1.cell? ⟨w.heap.size + 1, 1, none⟩ = some (.int .i64 (y : Int)) := by rw [← hW1]; simp [go_sem]
  have hB : Below w.heap.size w W1 := by rw [← hW1]; exact balloc (bnew _ _) _
  go_enter Try.func22, Try.ntmps22
  go_wp2_with fail
  clear hW1
  refine (IsFunc_is h0 _).mono ?_
  rintro e w2 ⟨rfl, hb2⟩
  have qp0 := kc hb2 p0
  have qp1 := kc hb2 p1
  have qr0 := kc hb2 r0
  have qr1 := kc hb2 r1
  clear p0 p1 r0 r1
  have hB2 := bthen hB hb2
  go_wp2_with fail
  refine (IsRelation_is h1 _).mono ?_
  rintro e w3 ⟨rfl, hb3⟩
  have sp0 := kc hb3 qp0
  have sp1 := kc hb3 qp1
  have sr0 := kc hb3 qr0
  have sr1 := kc hb3 qr1
  clear qp0 qp1 qr0 qr1
  have hB3 := bthen hB2 hb3
  go_wp2_with fail
  refine (keeps_any ok k4 okr _).mono ?_
  rintro e w4 ⟨rfl, hb4⟩
  go_wp2
  go_ret2
  exact ⟨rfl, bthen hB3 hb4⟩

set_option maxRecDepth 100000 in
set_option maxHeartbeats 4000000 in
theorem specKeeps_a {n0 b0 n1 b1 : Int} (h0 : isF n0 b0 = false) (w : World) :
    Calls Try.prog 20 #[.agg #[.int .i64 n0, .int .i64 b0], .agg #[.int .i64 n1, .int .i64 b1]] w fun e w' => e = .returned (.tuple #[.bool false, .int .i64 1]) ∧ Below w.heap.size w w' := by
  obtain ⟨W1, hW1⟩ : ∃ W1, (w.alloc (.cells #[.int .i64 n0, .int .i64 b0] 34)).alloc (.cells #[.int .i64 n1, .int .i64 b1] 25) = W1 := ⟨_, rfl⟩
  have p0 : W1.cell? ⟨w.heap.size, 0, none⟩ = some (.int .i64 n0) := by rw [← hW1]; simp [go_sem]
  have p1 : W1.cell? ⟨w.heap.size, 1, none⟩ = some (.int .i64 b0) := by rw [← hW1]; simp [go_sem]
  have r0 : W1.cell? ⟨w.heap.size + 1, 0, none⟩ = some (.int .i64 n1) := by rw [← hW1]; simp [go_sem]
  have r1 : W1.cell? ⟨w.heap.size + 1, 1, none⟩ = some (.int .i64 b1) := by rw [← hW1]; simp [go_sem]
  have hB : Below w.heap.size w W1 := by rw [← hW1]; exact balloc (bnew _ _) _
  go_enter Try.func20, Try.ntmps20
  go_wp2_with fail
  clear hW1
  refine (l01Is_is h0 _).mono ?_
  rintro e w2 ⟨rfl, hb2⟩
  have qp0 := kc hb2 p0
  have qp1 := kc hb2 p1
  have qr0 := kc hb2 r0
  have qr1 := kc hb2 r1
  clear p0 p1 r0 r1
  have hB2 := bthen hB hb2
  go_wp2
  go_ret2
  exact ⟨rfl, hB2⟩

set_option maxRecDepth 100000 in
set_option maxHeartbeats 4000000 in
theorem specKeeps_b {n0 b0 n1 b1 : Int} (h0 : isF n0 b0 = true) (h1 : isR n1 b1 = false) (w : World) :
    Calls Try.prog 20 #[.agg #[.int .i64 n0, .int .i64 b0], .agg #[.int .i64 n1, .int .i64 b1]] w fun e w' => e = .returned (.tuple #[.bool false, .int .i64 1]) ∧ Below w.heap.size w w' := by
  obtain ⟨W1, hW1⟩ : ∃ W1, (w.alloc (.cells #[.int .i64 n0, .int .i64 b0] 34)).alloc (.cells #[.int .i64 n1, .int .i64 b1] 25) = W1 := ⟨_, rfl⟩
  have p0 : W1.cell? ⟨w.heap.size, 0, none⟩ = some (.int .i64 n0) := by rw [← hW1]; simp [go_sem]
  have p1 : W1.cell? ⟨w.heap.size, 1, none⟩ = some (.int .i64 b0) := by rw [← hW1]; simp [go_sem]
  have r0 : W1.cell? ⟨w.heap.size + 1, 0, none⟩ = some (.int .i64 n1) := by rw [← hW1]; simp [go_sem]
  have r1 : W1.cell? ⟨w.heap.size + 1, 1, none⟩ = some (.int .i64 b1) := by rw [← hW1]; simp [go_sem]
  have hB : Below w.heap.size w W1 := by rw [← hW1]; exact balloc (bnew _ _) _
  go_enter Try.func20, Try.ntmps20
  go_wp2_with fail
  clear hW1
  refine (l01Is_is h0 _).mono ?_
  rintro e w2 ⟨rfl, hb2⟩
  have qp0 := kc hb2 p0
  have qp1 := kc hb2 p1
  have qr0 := kc hb2 r0
  have qr1 := kc hb2 r1
  clear p0 p1 r0 r1
  have hB2 := bthen hB hb2
  go_wp2_with fail
  refine (l06Is_is h1 _).mono ?_
  rintro e w3 ⟨rfl, hb3⟩
  have sp0 := kc hb3 qp0
  have sp1 := kc hb3 qp1
  have sr0 := kc hb3 qr0
  have sr1 := kc hb3 qr1
  clear qp0 qp1 qr0 qr1
  have hB3 := bthen hB2 hb3
  go_wp2
  go_ret2
  exact ⟨rfl, hB3⟩

set_option maxRecDepth 100000 in
set_option maxHeartbeats 4000000 in
theorem specKeeps_c {x R0 k : Nat} (ok : FOk (k : Int) x R0) (k4 : k ≤ 4) {P y Q : Nat} (okr : ROk (P : Int) y Q) (w : World) :
    Calls Try.prog 20 #[.agg #[.int .i64 (k : Int), .int .i64 (x : Int)], .agg #[.int .i64 (P : Int), .int .i64 (y : Int)]] w fun e w' => e = .returned (.tuple #[.bool (keepsN x y k P), .int .i64 0]) ∧ Below w.heap.size w w' := by
  have h0 := ok.is
  have h1 := okr.is
  obtain ⟨W1, hW1⟩ : ∃ W1, (w.alloc (.cells #[.int .i64 (k : Int), .int .i64 (x : Int)] 34)).alloc (.cells #[.int .i64 (P : Int), .int .i64 (y : Int)] 25) = W1 := ⟨_, rfl⟩
  have p0 : W1.cell? ⟨w.heap.size, 0, none⟩ = some (.int .i64 (k : Int)) := by rw [← hW1]; simp [go_sem]
  have p1 : W1.cell? ⟨w.heap.size, 1, none⟩ = some (.int .i64 (x : Int)) := by rw [← hW1]; simp [go_sem]
  have r0 : W1.cell? ⟨w.heap.size + 1, 0, none⟩ = some (.int .i64 (P : Int)) := by rw [← hW1]; simp [go_sem]
  have r1 : W1.cell? ⟨w.heap.size + 1, 1, none⟩ = some (.int .i64 (y : Int)) := by rw [← hW1]; simp [go_sem]
  have hB : Below w.heap.size w W1 := by rw [← hW1]; exact balloc (bnew _ _) _
  go_enter Try.func20, Try.ntmps20
  go_wp2_with fail
  clear hW1
  refine (l01Is_is h0 _).mono ?_
  rintro e w2 ⟨rfl, hb2⟩
  have qp0 := kc hb2 p0
  have qp1 := kc hb2 p1
  have qr0 := kc hb2 r0
  have qr1 := kc hb2 r1
  clear p0 p1 r0 r1
  have hB2 := bthen hB hb2
  go_wp2_with fail
  refine (l06Is_is h1 _).mono ?_
  rintro e w3 ⟨rfl, hb3⟩
  have sp0 := kc hb3 qp0
  have sp1 := kc hb3 qp1
  have sr0 := kc hb3 qr0
  have sr1 := kc hb3 qr1
  clear qp0 qp1 qr0 qr1
  have hB3 := bthen hB2 hb3
  go_wp2_with fail
  refine (l06Keeps_any ok k4 okr _).mono ?_
  rintro e w4 ⟨rfl, hb4⟩
  go_wp2
  go_ret2
  exact ⟨rfl, bthen hB3 hb4⟩

theorem fok_nat {n b : Int} (h : isF n b = true) : ∃ k x R : Nat, n = (k : Int) ∧ b = (x : Int) ∧ k ≤ 4 ∧ FOk (k : Int) x R := by
  obtain ⟨x, R, rfl, ok⟩ := fok h
  obtain ⟨k, rfl⟩ := Int.eq_ofNat_of_zero_le ok.h0
  exact ⟨k, x, R, rfl, rfl, by have := ok.h4; omega, ok⟩
theorem rok_nat {n b : Int} (h : isR n b = true) : ∃ k x R : Nat, n = (k : Int) ∧ b = (x : Int) ∧ k ≤ 4 ∧ ROk (k : Int) x R := by
  obtain ⟨x, R, rfl, ok⟩ := rok h
  obtain ⟨k, rfl⟩ := Int.eq_ofNat_of_zero_le ok.h0
  exact ⟨k, x, R, rfl, rfl, by have := ok.h4; omega, ok⟩

theorem bothKeepsRelation (n0 b0 n1 b1 : Int) : ∃ (rx : Bool) (rc : Int),
    (∀ w, Calls Try.prog 20 #[.agg #[.int .i64 n0, .int .i64 b0], .agg #[.int .i64 n1, .int .i64 b1]] w fun e w' => e = .returned (.tuple #[.bool rx, .int .i64 rc]) ∧ Below w.heap.size w w') ∧
    (∀ w, Calls Try.prog 22 #[.agg #[.int .i64 n0, .int .i64 b0], .agg #[.int .i64 n1, .int .i64 b1]] w fun e w' => e = .returned (.tuple #[.bool rx, .int .i64 rc]) ∧ Below w.heap.size w w') := by
  cases h0 : isF n0 b0
  · exact ⟨_, _, specKeeps_a h0, implKeeps_a h0⟩
  · cases h1 : isR n1 b1
    · exact ⟨_, _, specKeeps_b h0 h1, implKeeps_b h0 h1⟩
    · obtain ⟨k, x, R0, rfl, rfl, k4, ok⟩ := fok_nat h0
      obtain ⟨P, y, Q, rfl, rfl, _, okr⟩ := rok_nat h1
      exact ⟨_, _, specKeeps_c ok k4 okr, implKeeps_c ok k4 okr⟩
end Go.Proofs.Ytlohldddioikaaa
