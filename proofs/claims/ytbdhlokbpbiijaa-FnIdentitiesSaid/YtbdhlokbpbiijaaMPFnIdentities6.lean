/-
  The texts ID3, ID6, NX1, NM1, RE1, RE2, NP1, ID10, IM1 in one.
-/
import Derived.Test.YtbdhlokbpbiijaaMPFnIdentities5
import Derived.RangeFuncNested

/- ID3:
  IsIdempotent and IsSymmetric in both packages. -/
namespace Go.Proofs.Ytbdhlokbpbiijaa
open Go.RowKit Go.Shelf
set_option linter.unusedVariables false
set_option linter.unusedSimpArgs false

set_option maxHeartbeats 1000000 in
theorem implIsIdempotent_no {n b : Int} (h : isF n b = false) (w : World) :
    Calls Try.prog 55 #[.agg #[.int .i64 n, .int .i64 b]] w fun e w' => e = .returned (.tuple #[.bool false, .int .i64 1]) ∧ Below w.heap.size w w' := by
  go_enter Try.func55, Try.ntmps55
  go_wp2_with (go_at_call 85; refine (IsFunc_is h _).mono ?_; rintro e w2 ⟨rfl, hb2⟩)
  go_ret2
  exact ⟨rfl, bthen (bnew _ _) hb2⟩

set_option maxHeartbeats 1000000 in
theorem specIsIdempotent_no {n b : Int} (h : isF n b = false) (w : World) :
    Calls Try.prog 56 #[.agg #[.int .i64 n, .int .i64 b]] w fun e w' => e = .returned (.tuple #[.bool false, .int .i64 1]) ∧ Below w.heap.size w w' := by
  go_enter Try.func56, Try.ntmps56
  go_wp2_with (go_at_call 88; refine (l01Is_is h _).mono ?_; rintro e w2 ⟨rfl, hb2⟩)
  go_ret2
  exact ⟨rfl, bthen (bnew _ _) hb2⟩

set_option maxHeartbeats 1000000 in
theorem implIsIdempotent_yes {n : Int} {x R : Nat} (ok : FOk n x R) (w : World) :
    Calls Try.prog 55 #[.agg #[.int .i64 n, .int .i64 (x : Int)]] w fun e w' => e = .returned (.tuple #[.bool (idB x R), .int .i64 0]) ∧ Below w.heap.size w w' := by
  have h := ok.is
  obtain ⟨W1, hW1⟩ : ∃ W1, w.alloc (.cells #[.int .i64 n, .int .i64 (x : Int)] 25) = W1 := ⟨_, rfl⟩
  have p0 : W1.cell? ⟨w.heap.size, 0, none⟩ = some (.int .i64 n) := by rw [← hW1]; simp [go_sem]
  have p1 : W1.cell? ⟨w.heap.size, 1, none⟩ = some (.int .i64 (x : Int)) := by rw [← hW1]; simp [go_sem]
  have hB : Below w.heap.size w W1 := by rw [← hW1]; exact bnew _ _
  have HJ := Lib.hid (fun W => isIdempotent_any ok W)
  generalize idB x R = jb at HJ ⊢
  go_enter Try.func55, Try.ntmps55
  go_wp2_with (first
    | (go_at_call 85; refine (IsFunc_is h _).mono ?_; rintro e w2 ⟨rfl, hb2⟩; have d0 := kc hb2 p0; have d1 := kc hb2 p1)
    | (go_at_call 147; refine (HJ.out _).mono ?_; rintro e w3 ⟨rfl, hb3⟩))
  exact bodyPost_ret (v := .tuple #[.bool jb, .int .i64 0]) (by simp [results, Try.results55, go_sem]) rfl ⟨rfl, bthen (bthen hB hb2) hb3⟩

set_option maxHeartbeats 1000000 in
theorem specIsIdempotent_yes {n : Int} {x R : Nat} (ok : FOk n x R) (w : World) :
    Calls Try.prog 56 #[.agg #[.int .i64 n, .int .i64 (x : Int)]] w fun e w' => e = .returned (.tuple #[.bool (idB x R), .int .i64 0]) ∧ Below w.heap.size w w' := by
  have h := ok.is
  obtain ⟨W1, hW1⟩ : ∃ W1, w.alloc (.cells #[.int .i64 n, .int .i64 (x : Int)] 25) = W1 := ⟨_, rfl⟩
  have p0 : W1.cell? ⟨w.heap.size, 0, none⟩ = some (.int .i64 n) := by rw [← hW1]; simp [go_sem]
  have p1 : W1.cell? ⟨w.heap.size, 1, none⟩ = some (.int .i64 (x : Int)) := by rw [← hW1]; simp [go_sem]
  have hB : Below w.heap.size w W1 := by rw [← hW1]; exact bnew _ _
  have HJ := Lib.hid (fun W => l10Idem_any ok W)
  generalize idB x R = jb at HJ ⊢
  go_enter Try.func56, Try.ntmps56
  go_wp2_with (first
    | (go_at_call 88; refine (l01Is_is h _).mono ?_; rintro e w2 ⟨rfl, hb2⟩; have d0 := kc hb2 p0; have d1 := kc hb2 p1)
    | (go_at_call 148; refine (HJ.out _).mono ?_; rintro e w3 ⟨rfl, hb3⟩))
  exact bodyPost_ret (v := .tuple #[.bool jb, .int .i64 0]) (by simp [results, Try.results56, go_sem]) rfl ⟨rfl, bthen (bthen hB hb2) hb3⟩

theorem bothIsIdempotent (n b : Int) (_ : (Lit.int .i64 n).wf = true) (_ : (Lit.int .i64 b).wf = true) : ∃ (rx : Bool) (rc : Int),
    (∀ w, Calls Try.prog 56 #[.agg #[.int .i64 n, .int .i64 b]] w fun e w' => e = .returned (.tuple #[.bool rx, .int .i64 rc]) ∧ Below w.heap.size w w') ∧
    (∀ w, Calls Try.prog 55 #[.agg #[.int .i64 n, .int .i64 b]] w fun e w' => e = .returned (.tuple #[.bool rx, .int .i64 rc]) ∧ Below w.heap.size w w') := by
  cases h : isF n b
  · exact ⟨_, _, specIsIdempotent_no h, implIsIdempotent_no h⟩
  · obtain ⟨x, R, rfl, ok⟩ := fok h
    exact ⟨_, _, specIsIdempotent_yes ok, implIsIdempotent_yes ok⟩

set_option maxHeartbeats 1000000 in
theorem implIsSymmetric_no {n b : Int} (h : isF n b = false) (w : World) :
    Calls Try.prog 57 #[.agg #[.int .i64 n, .int .i64 b]] w fun e w' => e = .returned (.tuple #[.bool false, .int .i64 1]) ∧ Below w.heap.size w w' := by
  go_enter Try.func57, Try.ntmps57
  go_wp2_with (go_at_call 85; refine (IsFunc_is h _).mono ?_; rintro e w2 ⟨rfl, hb2⟩)
  go_ret2
  exact ⟨rfl, bthen (bnew _ _) hb2⟩

set_option maxHeartbeats 1000000 in
theorem specIsSymmetric_no {n b : Int} (h : isF n b = false) (w : World) :
    Calls Try.prog 58 #[.agg #[.int .i64 n, .int .i64 b]] w fun e w' => e = .returned (.tuple #[.bool false, .int .i64 1]) ∧ Below w.heap.size w w' := by
  go_enter Try.func58, Try.ntmps58
  go_wp2_with (go_at_call 88; refine (l01Is_is h _).mono ?_; rintro e w2 ⟨rfl, hb2⟩)
  go_ret2
  exact ⟨rfl, bthen (bnew _ _) hb2⟩

set_option maxHeartbeats 1000000 in
theorem implIsSymmetric_yes {n : Int} {x R : Nat} (ok : FOk n x R) (w : World) :
    Calls Try.prog 57 #[.agg #[.int .i64 n, .int .i64 (x : Int)]] w fun e w' => e = .returned (.tuple #[.bool (symB x R), .int .i64 0]) ∧ Below w.heap.size w w' := by
  have h := ok.is
  obtain ⟨W1, hW1⟩ : ∃ W1, w.alloc (.cells #[.int .i64 n, .int .i64 (x : Int)] 25) = W1 := ⟨_, rfl⟩
  have p0 : W1.cell? ⟨w.heap.size, 0, none⟩ = some (.int .i64 n) := by rw [← hW1]; simp [go_sem]
  have p1 : W1.cell? ⟨w.heap.size, 1, none⟩ = some (.int .i64 (x : Int)) := by rw [← hW1]; simp [go_sem]
  have hB : Below w.heap.size w W1 := by rw [← hW1]; exact bnew _ _
  have HJ := Lib.hid (fun W => isSymmetric_any ok W)
  generalize symB x R = jb at HJ ⊢
  go_enter Try.func57, Try.ntmps57
  go_wp2_with (first
    | (go_at_call 85; refine (IsFunc_is h _).mono ?_; rintro e w2 ⟨rfl, hb2⟩; have d0 := kc hb2 p0; have d1 := kc hb2 p1)
    | (go_at_call 149; refine (HJ.out _).mono ?_; rintro e w3 ⟨rfl, hb3⟩))
  exact bodyPost_ret (v := .tuple #[.bool jb, .int .i64 0]) (by simp [results, Try.results57, go_sem]) rfl ⟨rfl, bthen (bthen hB hb2) hb3⟩

set_option maxHeartbeats 1000000 in
theorem specIsSymmetric_yes {n : Int} {x R : Nat} (ok : FOk n x R) (w : World) :
    Calls Try.prog 58 #[.agg #[.int .i64 n, .int .i64 (x : Int)]] w fun e w' => e = .returned (.tuple #[.bool (symB x R), .int .i64 0]) ∧ Below w.heap.size w w' := by
  have h := ok.is
  obtain ⟨W1, hW1⟩ : ∃ W1, w.alloc (.cells #[.int .i64 n, .int .i64 (x : Int)] 25) = W1 := ⟨_, rfl⟩
  have p0 : W1.cell? ⟨w.heap.size, 0, none⟩ = some (.int .i64 n) := by rw [← hW1]; simp [go_sem]
  have p1 : W1.cell? ⟨w.heap.size, 1, none⟩ = some (.int .i64 (x : Int)) := by rw [← hW1]; simp [go_sem]
  have hB : Below w.heap.size w W1 := by rw [← hW1]; exact bnew _ _
  have HJ := Lib.hid (fun W => l10Symmetric_any ok W)
  generalize symB x R = jb at HJ ⊢
  go_enter Try.func58, Try.ntmps58
  go_wp2_with (first
    | (go_at_call 88; refine (l01Is_is h _).mono ?_; rintro e w2 ⟨rfl, hb2⟩; have d0 := kc hb2 p0; have d1 := kc hb2 p1)
    | (go_at_call 150; refine (HJ.out _).mono ?_; rintro e w3 ⟨rfl, hb3⟩))
  exact bodyPost_ret (v := .tuple #[.bool jb, .int .i64 0]) (by simp [results, Try.results58, go_sem]) rfl ⟨rfl, bthen (bthen hB hb2) hb3⟩

theorem bothIsSymmetric (n b : Int) (_ : (Lit.int .i64 n).wf = true) (_ : (Lit.int .i64 b).wf = true) : ∃ (rx : Bool) (rc : Int),
    (∀ w, Calls Try.prog 58 #[.agg #[.int .i64 n, .int .i64 b]] w fun e w' => e = .returned (.tuple #[.bool rx, .int .i64 rc]) ∧ Below w.heap.size w w') ∧
    (∀ w, Calls Try.prog 57 #[.agg #[.int .i64 n, .int .i64 b]] w fun e w' => e = .returned (.tuple #[.bool rx, .int .i64 rc]) ∧ Below w.heap.size w w') := by
  cases h : isF n b
  · exact ⟨_, _, specIsSymmetric_no h, implIsSymmetric_no h⟩
  · obtain ⟨x, R, rfl, ok⟩ := fok h
    exact ⟨_, _, specIsSymmetric_yes ok, implIsSymmetric_yes ok⟩

end Go.Proofs.Ytbdhlokbpbiijaa

/- ID6:
  Near unanimity of the model, and HasNearUnanimity in both packages. -/
namespace Go.Proofs.Ytbdhlokbpbiijaa
open Go.RowKit Go.Shelf
set_option linter.unusedVariables false
set_option linter.unusedSimpArgs false

/-- The row r does not show that a function has no near unanimity. -/
def nearP (n x r : Nat) : Bool := !(decide (sizeN r ≤ 1) && bitN x r == 1 || decide (n - 1 ≤ sizeN r) && bitN x r == 0)
def nearR (n x j : Nat) : Bool := allLt j fun r => nearP n x r
theorem nearR_succ (n x j : Nat) : nearR n x (j + 1) = (nearR n x j && nearP n x j) := allLt_succ _ _
theorem nearR_false {n x r R : Nat} (hr : r < R) (h : nearP n x r = false) : nearR n x R = false := by
  cases hc : nearR n x R
  · rfl
  · have := allLt_iff.1 hc r hr
    rw [h] at this
    cases this
theorem near_three (x : Nat) : nearB 3 x 8 = nearR 3 x 8 := by
  rw [Bool.eq_iff_iff]
  unfold nearR nearP
  have s : ∀ r, r < 8 → sizeN r = [0, 1, 1, 2, 1, 2, 2, 3][r]?.getD 0 := by decide
  have e : nearB 3 x 8 = (fotL x 8 [1, 2, 4] && idB x 8) := rfl
  rw [e]
  have L : List.range 8 = [0, 1, 2, 3, 4, 5, 6, 7] := rfl
  have b := fun r => bitN_le x r
  have b0 := b 0; have b1 := b 1; have b2 := b 2; have b3 := b 3; have b4 := b 4; have b5 := b 5; have b6 := b 6; have b7 := b 7
  simp [allLt, L, s, fotL, fotS, idB, cls0, cls1]
  omega
theorem near_four (x : Nat) : nearB 4 x 16 = nearR 4 x 16 := by
  rw [Bool.eq_iff_iff]
  unfold nearR nearP
  have s : ∀ r, r < 16 → sizeN r = [0, 1, 1, 2, 1, 2, 2, 3, 1, 2, 2, 3, 2, 3, 3, 4][r]?.getD 0 := by decide
  have e : nearB 4 x 16 = (fotL x 16 [1, 2, 4, 8] && idB x 16) := rfl
  rw [e]
  have L : List.range 16 = [0, 1, 2, 3, 4, 5, 6, 7, 8, 9, 10, 11, 12, 13, 14, 15] := rfl
  have b := fun r => bitN_le x r
  have b0 := b 0; have b1 := b 1; have b2 := b 2; have b4 := b 4; have b7 := b 7; have b8 := b 8; have b11 := b 11; have b13 := b 13; have b14 := b 14; have b15 := b 15
  simp [allLt, L, s, fotL, fotS, idB, cls0, cls1]
  omega
theorem near_is {n x R : Nat} (h3 : 3 ≤ n) (h4 : n ≤ 4) (he : R = 2 ^ n) : nearB n x R = nearR n x R := by
  subst he
  rcases (show n = 3 ∨ n = 4 by omega) with rfl | rfl
  · exact near_three x
  · exact near_four x
theorem near_small {n x R : Nat} (h3 : n < 3) : nearB n x R = false := by
  unfold nearB
  rw [decide_eq_false (by omega)]
  rfl

set_option maxRecDepth 100000 in
set_option maxHeartbeats 4000000 in
theorem l10Near_any {n : Int} {x R : Nat} (ok : FOk n x R) (w : World) :
    Calls Try.prog 153 #[.agg #[.int .i64 n, .int .i64 (x : Int)]] w fun e w' => e = .returned (.bool (nearB n.toNat x R)) ∧ Below w.heap.size w w' := by
  obtain ⟨m, rfl⟩ : ∃ m : Nat, n = (m : Int) := Int.eq_ofNat_of_zero_le ok.h0
  have m4 : m ≤ 4 := by have := ok.h4; omega
  have hmn : ((m : Int)).toNat = m := by omega
  have he : R = 2 ^ m := by have := ok.he; rwa [hmn] at this
  rw [hmn]
  clear hmn
  have r0 := ok.r0
  have r16 := ok.r16
  obtain ⟨W1, hW1⟩ : ∃ W1, w.alloc (.cells #[.int .i64 (m : Int), .int .i64 (x : Int)] 25) = W1 := ⟨_, rfl⟩
  have p0 : W1.cell? ⟨w.heap.size, 0, none⟩ = some (.int .i64 (m : Int)) := by rw [← hW1]; simp [go_sem]
  have p1 : W1.cell? ⟨w.heap.size, 1, none⟩ = some (.int .i64 (x : Int)) := by rw [← hW1]; simp [go_sem]
  have hB : Below w.heap.size w W1 := by rw [← hW1]; exact bnew _ _
  by_cases h3 : m < 3
  · rw [near_small h3]
    have hd : decide ((m : Int) < 3) = true := decide_eq_true (by omega)
    go_enter Try.func153, Try.ntmps153
    go_wp2
    go_ret
    exact ⟨rfl, hB⟩
  · rw [near_is (by omega) m4 he]
    have hd : decide ((m : Int) < 3) = false := decide_eq_false (by omega)
    have RWS := Lib.hid (fun W => l01Rows_is ok.h0 ok.h4 ok.hR W)
    have hwm : IntKind.i64.wrap ((m : Int) - 1) = (m : Int) - 1 := wrap64_in (by omega) (by omega)
    clear he
    go_enter Try.func153, Try.ntmps153
    go_wp2
    clear hW1
    go_loopw [3] (fun i' wr => ∃ i : Nat, i ≤ R ∧ i' = .int .i64 i ∧ Hid (nearR m x i = true) ∧ ((wr.cell? ⟨w.heap.size, 0, none⟩ = some (.int .i64 m) ∧ wr.cell? ⟨w.heap.size, 1, none⟩ = some (.int .i64 (x : Int))) ∧ Below w.heap.size w wr))
      (fun i' _ => R - (intOf i').toNat)
    case atStart => exact ⟨0, by omega, rfl, Lib.hid rfl, ⟨p0, p1⟩, hB⟩
    case round =>
      clear p0 p1 hB
      obtain ⟨i, hi, rfl, hm, ⟨p0, p1⟩, hB⟩ := hrel
      by_cases hlt : i < R
      · have AT := Lib.hid (fun W => l01At_any (m : Int) x i ok.hx (by omega) W)
        have WT := Lib.hid (fun W => l10Weight_any i (by omega) W)
        have HN := fun (h : nearP m x i = true) => Lib.hid (show nearR m x (i + 1) = true by rw [nearR_succ, hm.out, h]; rfl)
        have HF := fun (h : nearP m x i = false) => Lib.hid (nearR_false hlt h)
        have hs := sizeN_le i
        have bl := bitN_le x i
        unfold nearP at HN HF
        generalize bitN x i = v at AT HN HF bl
        generalize sizeN i = z at WT HN HF hs
        by_cases hz : z ≤ 1
        · have g1 : decide ((z : Int) ≤ 1) = true := decide_eq_true (by omega)
          have g2 : decide ((m : Int) - 1 ≤ (z : Int)) = false := decide_eq_false (by omega)
          rcases (show v = 0 ∨ v = 1 by omega) with rfl | rfl
          · have H := HN (by simp; omega)
            clear HN HF hm
            go_wp2_with (first
              | (go_at_call 116; refine (RWS.out _).mono ?_; rintro e w' ⟨rfl, rfl⟩)
              | (go_at_call 196; refine (WT.out _).mono ?_; rintro e w' ⟨rfl, rfl⟩)
              | (go_at_call 115; refine (AT.out _).mono ?_; rintro e w2 ⟨rfl, hb2⟩; have q0 := kc hb2 p0; have q1 := kc hb2 p1))
            go_roundw
            case rel => exact ⟨i + 1, by omega, by go_num, H, ⟨q0, q1⟩, bthen hB hb2⟩
            case measure => simp [intOf]; omega
          · have H := HF (by simp; omega)
            clear HN HF hm
            go_wp2_with (first
              | (go_at_call 116; refine (RWS.out _).mono ?_; rintro e w' ⟨rfl, rfl⟩)
              | (go_at_call 196; refine (WT.out _).mono ?_; rintro e w' ⟨rfl, rfl⟩)
              | (go_at_call 115; refine (AT.out _).mono ?_; rintro e w2 ⟨rfl, hb2⟩))
            go_ret
            exact ⟨by rw [H.out]; rfl, bthen hB hb2⟩
        · have g1 : decide ((z : Int) ≤ 1) = false := decide_eq_false (by omega)
          by_cases hz2 : m - 1 ≤ z
          · have g2 : decide ((m : Int) - 1 ≤ (z : Int)) = true := decide_eq_true (by omega)
            rcases (show v = 0 ∨ v = 1 by omega) with rfl | rfl
            · have H := HF (by simp; omega)
              clear HN HF hm
              go_wp2_with (first
                | (go_at_call 116; refine (RWS.out _).mono ?_; rintro e w' ⟨rfl, rfl⟩)
                | (go_at_call 196; refine (WT.out _).mono ?_; rintro e w' ⟨rfl, rfl⟩)
                | (go_at_call 115; refine (AT.out _).mono ?_; rintro e w2 ⟨rfl, hb2⟩))
              go_ret
              exact ⟨by rw [H.out]; rfl, bthen hB hb2⟩
            · have H := HN (by simp; omega)
              clear HN HF hm
              go_wp2_with (first
                | (go_at_call 116; refine (RWS.out _).mono ?_; rintro e w' ⟨rfl, rfl⟩)
                | (go_at_call 196; refine (WT.out _).mono ?_; rintro e w' ⟨rfl, rfl⟩)
                | (go_at_call 115; refine (AT.out _).mono ?_; rintro e w2 ⟨rfl, hb2⟩; have q0 := kc hb2 p0; have q1 := kc hb2 p1))
              go_roundw
              case rel => exact ⟨i + 1, by omega, by go_num, H, ⟨q0, q1⟩, bthen hB hb2⟩
              case measure => simp [intOf]; omega
          · have g2 : decide ((m : Int) - 1 ≤ (z : Int)) = false := decide_eq_false (by omega)
            have H := HN (by simp; omega)
            clear HN HF hm
            go_wp2_with (first
              | (go_at_call 116; refine (RWS.out _).mono ?_; rintro e w' ⟨rfl, rfl⟩)
              | (go_at_call 196; refine (WT.out _).mono ?_; rintro e w' ⟨rfl, rfl⟩))
            go_roundw
            case rel => exact ⟨i + 1, by omega, by go_num, H, ⟨p0, p1⟩, hB⟩
            case measure => simp [intOf]; omega
      · obtain rfl : i = R := by omega
        have H1 := hm.out
        go_wp2_with (go_at_call 116; refine (RWS.out _).mono ?_; rintro e w' ⟨rfl, rfl⟩)
        go_ret
        exact ⟨by rw [H1]; rfl, hB⟩

set_option maxHeartbeats 1000000 in
theorem implHasNearUnanimity_no {n b : Int} (h : isF n b = false) (w : World) :
    Calls Try.prog 61 #[.agg #[.int .i64 n, .int .i64 b]] w fun e w' => e = .returned (.tuple #[.bool false, .int .i64 1]) ∧ Below w.heap.size w w' := by
  go_enter Try.func61, Try.ntmps61
  go_wp2_with (go_at_call 85; refine (IsFunc_is h _).mono ?_; rintro e w2 ⟨rfl, hb2⟩)
  go_ret2
  exact ⟨rfl, bthen (bnew _ _) hb2⟩

set_option maxHeartbeats 1000000 in
theorem specHasNearUnanimity_no {n b : Int} (h : isF n b = false) (w : World) :
    Calls Try.prog 62 #[.agg #[.int .i64 n, .int .i64 b]] w fun e w' => e = .returned (.tuple #[.bool false, .int .i64 1]) ∧ Below w.heap.size w w' := by
  go_enter Try.func62, Try.ntmps62
  go_wp2_with (go_at_call 88; refine (l01Is_is h _).mono ?_; rintro e w2 ⟨rfl, hb2⟩)
  go_ret2
  exact ⟨rfl, bthen (bnew _ _) hb2⟩

set_option maxHeartbeats 1000000 in
theorem implHasNearUnanimity_yes {n : Int} {x R : Nat} (ok : FOk n x R) (w : World) :
    Calls Try.prog 61 #[.agg #[.int .i64 n, .int .i64 (x : Int)]] w fun e w' => e = .returned (.tuple #[.bool (nearB n.toNat x R), .int .i64 0]) ∧ Below w.heap.size w w' := by
  have h := ok.is
  obtain ⟨W1, hW1⟩ : ∃ W1, w.alloc (.cells #[.int .i64 n, .int .i64 (x : Int)] 25) = W1 := ⟨_, rfl⟩
  have p0 : W1.cell? ⟨w.heap.size, 0, none⟩ = some (.int .i64 n) := by rw [← hW1]; simp [go_sem]
  have p1 : W1.cell? ⟨w.heap.size, 1, none⟩ = some (.int .i64 (x : Int)) := by rw [← hW1]; simp [go_sem]
  have hB : Below w.heap.size w W1 := by rw [← hW1]; exact bnew _ _
  have HJ := Lib.hid (fun W => hasNearUnanimity_any ok W)
  generalize nearB n.toNat x R = jb at HJ ⊢
  go_enter Try.func61, Try.ntmps61
  go_wp2_with (first
    | (go_at_call 85; refine (IsFunc_is h _).mono ?_; rintro e w2 ⟨rfl, hb2⟩; have d0 := kc hb2 p0; have d1 := kc hb2 p1)
    | (go_at_call 152; refine (HJ.out _).mono ?_; rintro e w3 ⟨rfl, hb3⟩))
  exact bodyPost_ret (v := .tuple #[.bool jb, .int .i64 0]) (by simp [results, Try.results61, go_sem]) rfl ⟨rfl, bthen (bthen hB hb2) hb3⟩

set_option maxHeartbeats 1000000 in
theorem specHasNearUnanimity_yes {n : Int} {x R : Nat} (ok : FOk n x R) (w : World) :
    Calls Try.prog 62 #[.agg #[.int .i64 n, .int .i64 (x : Int)]] w fun e w' => e = .returned (.tuple #[.bool (nearB n.toNat x R), .int .i64 0]) ∧ Below w.heap.size w w' := by
  have h := ok.is
  obtain ⟨W1, hW1⟩ : ∃ W1, w.alloc (.cells #[.int .i64 n, .int .i64 (x : Int)] 25) = W1 := ⟨_, rfl⟩
  have p0 : W1.cell? ⟨w.heap.size, 0, none⟩ = some (.int .i64 n) := by rw [← hW1]; simp [go_sem]
  have p1 : W1.cell? ⟨w.heap.size, 1, none⟩ = some (.int .i64 (x : Int)) := by rw [← hW1]; simp [go_sem]
  have hB : Below w.heap.size w W1 := by rw [← hW1]; exact bnew _ _
  have HJ := Lib.hid (fun W => l10Near_any ok W)
  generalize nearB n.toNat x R = jb at HJ ⊢
  go_enter Try.func62, Try.ntmps62
  go_wp2_with (first
    | (go_at_call 88; refine (l01Is_is h _).mono ?_; rintro e w2 ⟨rfl, hb2⟩; have d0 := kc hb2 p0; have d1 := kc hb2 p1)
    | (go_at_call 153; refine (HJ.out _).mono ?_; rintro e w3 ⟨rfl, hb3⟩))
  exact bodyPost_ret (v := .tuple #[.bool jb, .int .i64 0]) (by simp [results, Try.results62, go_sem]) rfl ⟨rfl, bthen (bthen hB hb2) hb3⟩

theorem bothHasNearUnanimity (n b : Int) (_ : (Lit.int .i64 n).wf = true) (_ : (Lit.int .i64 b).wf = true) : ∃ (rx : Bool) (rc : Int),
    (∀ w, Calls Try.prog 62 #[.agg #[.int .i64 n, .int .i64 b]] w fun e w' => e = .returned (.tuple #[.bool rx, .int .i64 rc]) ∧ Below w.heap.size w w') ∧
    (∀ w, Calls Try.prog 61 #[.agg #[.int .i64 n, .int .i64 b]] w fun e w' => e = .returned (.tuple #[.bool rx, .int .i64 rc]) ∧ Below w.heap.size w w') := by
  cases h : isF n b
  · exact ⟨_, _, specHasNearUnanimity_no h, implHasNearUnanimity_no h⟩
  · obtain ⟨x, R, rfl, ok⟩ := fok h
    exact ⟨_, _, specHasNearUnanimity_yes ok, implHasNearUnanimity_yes ok⟩
end Go.Proofs.Ytbdhlokbpbiijaa

/- NX1:
  A range over a function whose iterator keeps cells of its own, or is itself made of another one: what is asked of it, and the law of who ranges over it.
  A round keeps the blocks of T (the iterator's own); the caller's word speaks of blocks below K alone. -/
namespace Go.Proofs.Ytbdhlokbpbiijaa
open Go Go.RowKit

set_option linter.unusedVariables false

/-- What lay in the blocks of S lies as it lay. -/
structure Above (S : Nat → Prop) (W W' : World) : Prop where
  size : W.heap.size ≤ W'.heap.size
  same : ∀ k, S k → k < W.heap.size → W'.heap[k]? = W.heap[k]?
theorem Above.refl (S : Nat → Prop) (W : World) : Above S W W := ⟨Nat.le_refl _, fun _ _ _ => rfl⟩
theorem Above.trans {S : Nat → Prop} {A B C : World} (h : Above S A B) (k : Above S B C) : Above S A C :=
  ⟨Nat.le_trans h.size k.size, fun i h1 h2 => (k.same i h1 (Nat.lt_of_lt_of_le h2 h.size)).trans (h.same i h1 h2)⟩
theorem Above.mono {S S' : Nat → Prop} {A B : World} (h : Above S A B) (hk : ∀ k, S' k → S k) : Above S' A B := ⟨h.size, fun i h1 h2 => h.same i (hk i h1) h2⟩
theorem Above.grown {S : Nat → Prop} {A B : World} {row : Option Nat} (hg : A.grownBy B row) (hr : ∀ r, row = some r → ¬ S r) : Above S A B :=
  ⟨hg.size, fun i h1 h2 => hg.block i h2 (fun e => hr i e.symm h1)⟩
theorem Above.below {S : Nat → Prop} {A B : World} (h : Below A.heap.size A B) : Above S A B := ⟨h.size, fun i _ h2 => h.block i h2⟩
theorem Above.put {S : Nat → Prop} (W : World) (l : Nat) (o : Obj) (hl : ¬ S l) : Above S W (W.putObj l o) := Above.grown (grownBy_putObj' W l o) (fun r e => by cases e; exact hl)

/-- What speaks of blocks below K alone. -/
def Firm {β : Type} (K : Nat) (J : β → World → Prop) : Prop :=
  ∀ s W W' row, J s W → W.grownBy W' row → (∀ r, row = some r → K ≤ r) → J s W'
theorem Firm.mono {β : Type} {K K' : Nat} {J : β → World → Prop} (h : Firm K J) (hk : K ≤ K') : Firm K' J := fun s W W' row hs hg hr => h s W W' row hs hg (fun r e => Nat.le_trans hk (hr r e))
theorem Firm.and {β : Type} {K : Nat} {I I' : β → World → Prop} (h : Firm K I) (h' : Firm K I') : Firm K (fun s W => I s W ∧ I' s W) :=
  fun s W W' row hs hg hr => ⟨h s W W' row hs.1 hg hr, h' s W W' row hs.2 hg hr⟩
theorem Firm.put {β : Type} {K : Nat} {J : β → World → Prop} (h : Firm K J) {s : β} {W : World} (l : Nat) (o : Obj) (hs : J s W) (hl : K ≤ l) : J s (W.putObj l o) :=
  h s W _ (some l) hs (grownBy_putObj' W l o) (fun r e => by cases e; exact hl)
theorem Firm.alloc {β : Type} {K : Nat} {J : β → World → Prop} (h : Firm K J) {s : β} {W : World} (o : Obj) (hs : J s W) : J s (W.alloc o) :=
  h s W _ none hs (World.grownBy_alloc W o none) (fun r e => by cases e)
/-- A block below K that holds o, and what a step behind K does to it: nothing. -/
theorem firm_block {β : Type} {K k : Nat} (hk : k < K) (o : Obj) : Firm K (fun (_ : β) W => W.heap[k]? = some o) :=
  fun _ W W' row hs hg hr => (hg.block k (Array.getElem?_eq_some_iff.1 hs).1 (fun e => by have := hr k e.symm; omega)).trans hs
theorem firm_below {β : Type} {K m : Nat} {w : World} (hm : m ≤ K) (hs : m ≤ w.heap.size) : Firm K (fun (_ : β) W => Below m w W) :=
  fun _ W W' row hb hg hr => hb.grown hg (Nat.le_trans hs hb.size) (fun r e => Nat.le_trans hm (hr r e))
theorem firm_pure {β : Type} (K : Nat) (p : β → Prop) : Firm K (fun s (_ : World) => p s) := fun _ _ _ _ hs _ _ => hs

/-- **The contract**: at whatever loop l whose rounds keep the blocks of T, and whose word speaks of blocks below K alone, K at most the heap's size at the call. -/
def SeqX {α : Type} (F : Fence) (n : Nat) (P : Program) (g : Nat) (lb : Array Value) (encs : α → Array Value) (S Sp : List α → Prop) (N K : Nat) (T : Nat → Prop) (w : World) : Prop :=
  ∀ (l : Nat) (J Jx : List α → World → Prop) (W : World), Below w.heap.size w W → K ≤ W.heap.size → Firm K J → Firm K Jx →
    (∀ pre x W1, J pre W1 → pre.length < N → YieldAt F (n - 1) P l (encs x) W1 fun e W' =>
      Above T W1 W' ∧ ((e = .returned (.bool true) ∧ J (pre ++ [x]) W') ∨ (e = .returned (.bool false) ∧ Jx (pre ++ [x]) W'))) →
    J [] W →
    CallsIn F n P g (#[.func (.yield l) #[] #[]] ++ lb) W fun e W' => (∃ v, e = .returned v) ∧ ((∃ xs, S xs ∧ J xs W') ∨ (∃ pre, Sp pre ∧ Jx pre W'))

/-- How a round may be left. -/
def postX {α : Type} (B : Nat) (T : Nat → Prop) (I : List α → World → Prop) (Ix : Code → List α → World → Prop) (xs : List α) (W : World) : Exit → Act → World → Prop
  | .normal, _, W' => (KeepsFrom B W W' ∧ Above T W W') ∧ I xs W'
  | .ret, _, W' => (KeepsFrom B W W' ∧ Above T W W') ∧ Ix .ret xs W'
  | .exit id, _, W' => (KeepsFrom B W W' ∧ Above T W W') ∧ Ix (.exit id) xs W'
  | .goto t, _, W' => (KeepsFrom B W W' ∧ Above T W W') ∧ Ix (.goto t) xs W'
  | .panic _, _, _ => False
  | .outgrown, _, _ => False

variable {F : Fence} {n : Nat} {P : Program}

/-- **The law of who ranges over it.** -/
theorem wpIn_rangeFunc_X {α : Type} {g : Operand} {ps : Array Tmp} {assign body : Code} {Q : Exit → Act → World → Prop} {a : Act} {w : World}
    (hro : F.round = none) (h1 : 1 ≤ n) {gf : Nat} {lb : Array Value} (hg : a.eval g = .func (.func gf) #[] lb) (hFg : F.fn gf) (eg : ∀ args w, (callFunc gf args).run P w = .ok (.enter gf args) w)
    {encs : α → Array Value} {S Sp : List α → Prop} {N : Nat} {T : Nat → Prop} {w0 : World} (hT : ¬ T (w.heap.size + 1)) (hseq : SeqX F (n - 1) P gf lb encs S Sp N (w.heap.size + 2) T w0)
    (hb0 : Below w0.heap.size w0 w) (hps : ∀ x, (encs x).size = ps.size)
    (I : List α → World → Prop) (Ix : Code → List α → World → Prop) (hI : Firm w.heap.size I) (hIx : ∀ c, Firm w.heap.size (Ix c)) (h0 : I [] w) (a₁ : α → Act)
    (hassign : ∀ (l : Nat) (x : α) (W : World) (K : Act → World → Prop), K (a₁ x) W →
      assign.wpIn (F.inRound l) (n - 1 - 1) P (Exit.then K (fun _ _ _ => False)) { tmps := (ps.zip (encs x)).foldl (fun t (p, v) => t.setIfInBounds p v) a.tmps, defers := [] } W)
    (hbody : ∀ (l : Nat) (pre : List α) (x : α) (W : World), I pre W → pre.length < N → body.wpIn (F.inRound l) (n - 1 - 1) P (postX w.heap.size T I Ix (pre ++ [x]) W) (a₁ x) W)
    (hdone : ∀ (D : Nat) (xs : List α) (W : World), w.heap.size ≤ D → S xs → I xs W → W.heap[D]? = some (.deferred (some [])) → Q .normal { a with defers := { target := .collected D, args := #[] } :: a.defers } W)
    (hstop : ∀ (D : Nat) (c : Code) (pre : List α) (W : World), w.heap.size ≤ D → Sp pre → Ix c pre W → W.heap[D]? = some (.deferred (some [])) → c.wpIn F n P Q { a with defers := { target := .collected D, args := #[] } :: a.defers } W) :
    (Code.rangeFunc g ps assign body).wpIn F n P Q a w := by
  refine wpIn_rangeFunc fun fn hfn => ?_
  rw [hro]
  -- the loop's record, as a function of its state and its pending jump; the world with both blocks of book-keeping
  let D := w.heap.size
  let L := w.heap.size + 1
  let rec' : LoopState → Option Code → Obj := fun st pe => .loop { state := st, pending := pe, fn, tmps := a.tmps, params := ps, assign, body, defers := D }
  obtain ⟨V, hV⟩ : ∃ V, (w.alloc (.deferred (some []))).alloc (rec' .ready none) = V := ⟨_, rfl⟩
  have sV : V.heap.size = w.heap.size + 2 := by rw [← hV]; simp
  have hL : V.heap[L]? = some (rec' .ready none) := by
    rw [← hV]; have := World.alloc_heap_new (w.alloc (.deferred (some []))) (rec' .ready none); rwa [World.size_alloc] at this
  have hD : V.heap[D]? = some (.deferred (some [])) := by
    rw [← hV]; exact (Below.heap_alloc _ _ _ (by simp [D])).trans (World.alloc_heap_new w _)
  have hIV : I [] V := by rw [← hV]; exact hI.alloc _ (hI.alloc _ h0)
  have hBV : Below w0.heap.size w0 V := by
    rw [← hV]; exact (hb0.alloc hb0.size _).alloc (by simp; have := hb0.size; omega) _
  refine ⟨L, [{ target := .collected D, args := #[] }], V, { target := .fn (.func gf) lb, args := #[.func (.yield L) #[] #[]] }, V, gf, #[.func (.yield L) #[] #[]] ++ lb, V, ?_, ?_, ?_, ?_, fun _ => h1, ?_⟩
  · rw [← hV]; exact run_enterLoop_outer _ _ _ _ _
  · simp only [resolve, hg]; simp [go_sem]
  · intro f' hf'; simp [Target.leads] at hf'; subst hf'; exact hFg
  · simp [invoke, go_sem, eg]
  have fL : ∀ o, Firm (w.heap.size + 2) (fun (_ : List α) W => W.heap[L]? = some o) := fun o => firm_block (by simp [L]) o
  have fD : Firm (w.heap.size + 2) (fun (_ : List α) W => W.heap[D]? = some (.deferred (some []))) := firm_block (by simp [D]) _
  have fI : Firm (w.heap.size + 2) I := hI.mono (by omega)
  refine (hseq L (fun pre W => I pre W ∧ (W.heap[L]? = some (rec' .ready none) ∧ W.heap[D]? = some (.deferred (some []))))
    (fun pre W => ∃ c, Ix c pre W ∧ (W.heap[L]? = some (rec' .done (some c)) ∧ W.heap[D]? = some (.deferred (some []))))
    V hBV (by omega) (fI.and ((fL _).and fD))
    (fun s A B row hs hg' hr => by
      obtain ⟨c, hc, hk⟩ := hs
      exact ⟨c, (hIx c).mono (Nat.le_add_right _ 2) s A B row hc hg' hr, ((fL _).and fD) s A B row hk hg' hr⟩)
    ?_ ⟨hIV, hL, hD⟩).mono ?_
  · -- one round
    rintro pre x W ⟨hi, hl, hd⟩ hlen
    have hlt : L < W.heap.size := (Array.getElem?_eq_some_iff.1 hl).1
    refine ⟨fn, _, assign, body, run_yield (P := P) (args := encs x) hl (hps x), roundIn_of_wpIn hfn (hassign _ x W _ ⟨_, run_beginRound hl rfl, ?_⟩)⟩
    obtain ⟨Wb, hWb⟩ : ∃ Wb, W.putObj L (rec' .busy none) = Wb := ⟨_, rfl⟩
    have hlb : Wb.heap[L]? = some (rec' .busy none) := by rw [← hWb]; exact World.putObj_heap_same hlt
    have hdb : Wb.heap[D]? = some (.deferred (some [])) := by rw [← hWb]; exact (World.putObj_heap_other (by simp [D, L])).trans hd
    have hib : I pre Wb := by rw [← hWb]; exact hI.put _ _ hi (by simp [L])
    have hab : Above T W Wb := by rw [← hWb]; exact Above.put _ _ _ hT
    change body.wpIn _ _ _ _ _ (W.putObj L (rec' .busy none))
    rw [hWb]
    refine wpIn_mono (hbody L pre x Wb hib hlen) ?_
    -- the round's end: the record and the block behind it lie as they lay
    have fin : ∀ (jump : Option Code) (W3 : World), KeepsFrom w.heap.size Wb W3 → Above T Wb W3 →
        ∃ W4, (Instr.endRound L jump).run P W3 = .ok (.bool jump.isNone) W4 ∧ W4.heap[L]? = some (rec' (if jump.isNone then .ready else .done) jump) ∧ W4.heap[D]? = some (.deferred (some [])) ∧ Above T W W4 ∧
          (∀ (J : List α → World → Prop), Firm w.heap.size J → ∀ ys, J ys W3 → J ys W4) := fun jump W3 hk ha => by
      have hl3 := hk.same L _ (by simp [L]) hlb rfl
      have hd3 := hk.same D _ (Nat.le_refl _) hdb rfl
      refine ⟨_, run_endRound (P := P) jump hl3, World.putObj_heap_same (Array.getElem?_eq_some_iff.1 hl3).1, (World.putObj_heap_other (by simp [D, L])).trans hd3, (hab.trans ha).trans (Above.put _ _ _ hT), fun J hJ ys h => hJ.put _ _ h (by simp [L])⟩
    rintro e a3 W3 hp
    cases e with
    | normal =>
      obtain ⟨⟨hk, ha⟩, hi3⟩ := hp
      obtain ⟨W4, hr, hl4, hd4, ha4, hj⟩ := fin none W3 hk ha
      exact ⟨_, _, hr, ha4, .inl ⟨rfl, hj I hI _ hi3, hl4, hd4⟩⟩
    | ret =>
      obtain ⟨⟨hk, ha⟩, hi3⟩ := hp
      obtain ⟨W4, hr, hl4, hd4, ha4, hj⟩ := fin (some .ret) W3 hk ha
      exact ⟨_, _, hr, ha4, .inr ⟨rfl, .ret, hj _ (hIx _) _ hi3, hl4, hd4⟩⟩
    | exit id =>
      obtain ⟨⟨hk, ha⟩, hi3⟩ := hp
      obtain ⟨W4, hr, hl4, hd4, ha4, hj⟩ := fin (some (.exit id)) W3 hk ha
      exact ⟨_, _, hr, ha4, .inr ⟨rfl, .exit id, hj _ (hIx _) _ hi3, hl4, hd4⟩⟩
    | goto t =>
      obtain ⟨⟨hk, ha⟩, hi3⟩ := hp
      obtain ⟨W4, hr, hl4, hd4, ha4, hj⟩ := fin (some (.goto t)) W3 hk ha
      exact ⟨_, _, hr, ha4, .inr ⟨rfl, .goto t, hj _ (hIx _) _ hi3, hl4, hd4⟩⟩
    | panic ch => exact hp.elim
    | outgrown => exact hp.elim
  · -- behind the iterator
    rintro e W2 ⟨⟨v, rfl⟩, (⟨xs, hS, hi, hl, hd⟩ | ⟨pre, hSp, c, hi, hl, hd⟩)⟩
    · exact ⟨none, _, run_endLoop (P := P) hl (by simp), hdone D xs _ (Nat.le_refl _) hS (hI.put _ _ hi (by simp [L])) ((World.putObj_heap_other (by simp [D, L])).trans hd)⟩
    · exact ⟨some c, _, run_endLoop (P := P) hl (by simp), hstop D c pre _ (Nat.le_refl _) hSp ((hIx c).put _ _ hi (by simp [L])) ((World.putObj_heap_other (by simp [D, L])).trans hd)⟩
end Go.Proofs.Ytbdhlokbpbiijaa

/- NM1:
  Functions put into a function by a tree of choices, as plain words: what lies in the tree's levels, the value at a place, all lists of a length. -/
namespace Go.Proofs.Ytbdhlokbpbiijaa

/-- b where g has the digit, else a. -/
def selN (a b g : Nat) : Nat := (a ^^^ (a &&& g)) ||| (b &&& g)
theorem selN_bit (a b g k : Nat) : (selN a b g).testBit k = if g.testBit k then b.testBit k else a.testBit k := by
  simp only [selN, Nat.testBit_or, Nat.testBit_xor, Nat.testBit_and]
  cases g.testBit k <;> cases a.testBit k <;> cases b.testBit k <;> rfl
theorem selN_lt {a b g T : Nat} (ha : a < 2 ^ T) (hb : b < 2 ^ T) : selN a b g < 2 ^ T := by
  have h1 : a &&& g < 2 ^ T := Nat.lt_of_le_of_lt Nat.and_le_left ha
  have h2 : b &&& g < 2 ^ T := Nat.lt_of_le_of_lt Nat.and_le_left hb
  exact Nat.or_lt_two_pow (Nat.xor_lt_two_pow ha h1) h2

/-- A level of the tree: v at the bottom, the functions of p put in, the first one lowest. -/
def levF (v : Nat → Nat) : List Nat → Nat → Nat
  | [], q => v q
  | g :: p, q => levF (fun q => selN (v (2 * q)) (v (2 * q + 1)) g) p q
theorem levF_snoc (v : Nat → Nat) (p : List Nat) (g q : Nat) : levF v (p ++ [g]) q = selN (levF v p (2 * q)) (levF v p (2 * q + 1)) g := by
  induction p generalizing v with
  | nil => rfl
  | cons a p ih => simp only [List.cons_append, levF, ih]
theorem levF_lt {v : Nat → Nat} {T : Nat} (hv : ∀ q, v q < 2 ^ T) (p : List Nat) (q : Nat) : levF v p q < 2 ^ T := by
  induction p generalizing v with
  | nil => exact hv q
  | cons a p ih => exact ih (fun q => selN_lt (hv _) (hv _))

/-- The row at place k of functions (of tuples) in order. -/
def rowP : List Nat → Nat → Nat
  | [], _ => 0
  | g :: p, k => (g.testBit k).toNat + 2 * rowP p k
theorem rowP_lt (p : List Nat) (k : Nat) : rowP p k < 2 ^ p.length := by
  induction p with
  | nil => simp [rowP]
  | cons g p ih => simp only [rowP, List.length_cons, Nat.pow_succ]; have : (g.testBit k).toNat ≤ 1 := by cases g.testBit k <;> decide
                   omega
theorem rowP_snoc (p : List Nat) (g k : Nat) : rowP (p ++ [g]) k = rowP p k + (g.testBit k).toNat * 2 ^ p.length := by
  induction p with
  | nil => simp [rowP]
  | cons a p ih => simp only [List.cons_append, rowP, ih, List.length_cons, Nat.pow_succ]; grind
theorem levF_bit (v : Nat → Nat) (p : List Nat) (q k : Nat) : (levF v p q).testBit k = (v (rowP p k + 2 ^ p.length * q)).testBit k := by
  induction p generalizing v with
  | nil => simp [levF, rowP]
  | cons g p ih =>
    simp only [levF, ih, selN_bit, rowP, List.length_cons]
    have e : (g.testBit k).toNat + 2 * rowP p k + 2 ^ (p.length + 1) * q = 2 * (rowP p k + 2 ^ p.length * q) + (g.testBit k).toNat := by rw [Nat.pow_succ]; grind
    rw [e]
    cases g.testBit k <;> simp

theorem bitN_testBit (x i : Nat) : bitN x i = (x.testBit i).toNat := by
  unfold bitN
  rw [Nat.testBit_eq_decide_div_mod_eq]
  have : x / 2 ^ i % 2 < 2 := Nat.mod_lt _ (by decide)
  by_cases h : x / 2 ^ i % 2 = 1
  · simp [h]
  · have h0 : x / 2 ^ i % 2 = 0 := by omega
    simp [h0]
theorem sumN_testBit (u : Nat → Nat) (hu : ∀ j, u j ≤ 1) (K k : Nat) : (sumN u K).testBit k = (decide (k < K) && (u k == 1)) := by
  induction K with
  | zero => simp [sumN]
  | succ K ih =>
    have hlt : sumN u K < 2 ^ K := sumN_lt u K (fun r _ => hu r)
    have e : sumN u (K + 1) = 2 ^ K * u K + sumN u K := by simp only [sumN, Nat.mul_comm]; omega
    rw [e, Nat.testBit_two_pow_mul_add _ hlt]
    by_cases h : k < K
    · have h1 : k < K + 1 := by omega
      rw [if_pos h, ih, decide_eq_true h, decide_eq_true h1]
    · rw [if_neg h]
      by_cases hk : k = K
      · subst hk
        rw [Nat.sub_self, decide_eq_true (Nat.lt_succ_self k), Bool.true_and]
        rcases (show u k = 0 ∨ u k = 1 by have := hu k; omega) with h0 | h0 <;> rw [h0] <;> decide
      · have h1 : ¬ k < K + 1 := by omega
        rw [decide_eq_false h1, Bool.false_and]
        exact Nat.testBit_lt_two_pow (Nat.lt_of_le_of_lt (hu K) (Nat.lt_of_lt_of_le (by decide : 1 < 2 ^ 1) (Nat.pow_le_pow_right (by decide) (by omega))))

/-- What f (with the Bits x) makes of the tuples p, at its first places. -/
def tupV (x : Nat) (p : List Nat) (places : Nat) : Nat := sumN (fun k => bitN x (rowP p k)) places
theorem tupV_lt (x : Nat) (p : List Nat) (places : Nat) : tupV x p places < 2 ^ places := sumN_lt _ _ (fun _ _ => bitN_le _ _)
theorem tupV_lev (x : Nat) (p : List Nat) (places : Nat) (hp : places ≤ 4) : levF (fun q => bitN x q * 15) p 0 &&& (2 ^ places - 1) = tupV x p places := by
  apply Nat.eq_of_testBit_eq
  intro k
  rw [tupV, sumN_testBit _ (fun _ => bitN_le _ _), Nat.testBit_and, levF_bit, Nat.testBit_two_pow_sub_one, Nat.mul_zero, Nat.add_zero]
  by_cases h : k < places
  · simp only [h, decide_true, Bool.and_true, Bool.true_and]
    have h4 : k = 0 ∨ k = 1 ∨ k = 2 ∨ k = 3 := by omega
    rcases (show bitN x (rowP p k) = 0 ∨ bitN x (rowP p k) = 1 by have := bitN_le x (rowP p k); omega) with e | e <;> rw [e] <;> rcases h4 with rfl | rfl | rfl | rfl <;> decide
  · simp [h]

/-- All lists of m numbers of a list, in lexicographic order. -/
def allP (g : List Nat) : Nat → List (List Nat)
  | 0 => [[]]
  | m + 1 => g.flatMap fun a => (allP g m).map (a :: ·)
theorem allP_mem {g : List Nat} {m : Nat} {p : List Nat} : p ∈ allP g m ↔ p.length = m ∧ ∀ a ∈ p, a ∈ g := by
  induction m generalizing p with
  | zero => simp only [allP, List.mem_singleton]; constructor
            · rintro rfl; simp
            · rintro ⟨h, _⟩; exact List.length_eq_zero_iff.1 h
  | succ m ih =>
    simp only [allP, List.mem_flatMap, List.mem_map]
    constructor
    · rintro ⟨a, ha, q, hq, rfl⟩
      obtain ⟨h1, h2⟩ := ih.1 hq
      exact ⟨by simp [h1], by simpa [ha] using h2⟩
    · rintro ⟨h1, h2⟩
      cases p with
      | nil => simp at h1
      | cons a q => exact ⟨a, h2 a (by simp), q, ih.2 ⟨by simpa using h1, fun b hb => h2 b (by simp [hb])⟩, rfl⟩
theorem allP_length (g : List Nat) (m : Nat) : (allP g m).length = g.length ^ m := by
  induction m with
  | zero => rfl
  | succ m ih => simp [allP, List.length_flatMap, ih, Nat.pow_succ, Nat.mul_comm, List.map_const', List.sum_replicate_nat]

/-- What is made behind the tuples b, m more to come. -/
def madeL (x places : Nat) (g b : List Nat) (m : Nat) : List Nat := (allP g m).map fun p => tupV x (b ++ p) places
theorem madeL_zero (x places : Nat) (g b : List Nat) : madeL x places g b 0 = [tupV x b places] := by simp [madeL, allP]
theorem madeL_succ (x places : Nat) (g b : List Nat) (m : Nat) : madeL x places g b (m + 1) = g.flatMap fun a => madeL x places g (b ++ [a]) m := by
  simp only [madeL, allP, List.map_flatMap, List.map_map]
  congr 1
  funext a
  congr 1
  funext p
  simp [Function.comp]
theorem madeL_lt {x places : Nat} {g b : List Nat} {m t : Nat} (h : t ∈ madeL x places g b m) : t < 2 ^ places := by
  simp only [madeL, List.mem_map] at h
  obtain ⟨p, _, rfl⟩ := h
  exact tupV_lt _ _ _

/-- Numbers as digits. -/
def orL (b : Nat) (l : List Nat) : Nat := l.foldl (fun o t => o ||| 2 ^ t) b
theorem orL_bit (b : Nat) (l : List Nat) (k : Nat) : (orL b l).testBit k = (b.testBit k || l.contains k) := by
  induction l generalizing b with
  | nil => simp [orL]
  | cons t l ih =>
    have : orL b (t :: l) = orL (b ||| 2 ^ t) l := rfl
    rw [this, ih, Nat.testBit_or, Nat.testBit_two_pow, List.contains_cons]
    by_cases h : t = k
    · subst h; simp
    · have h2 : (k == t) = false := by simp; omega
      simp [h, h2]
theorem orL_or (b : Nat) (l : List Nat) : orL b l = b ||| orL 0 l := by
  apply Nat.eq_of_testBit_eq
  intro k
  simp [orL_bit, Nat.testBit_or]
theorem orL_append (b : Nat) (l l' : List Nat) : orL b (l ++ l') = orL b l ||| orL 0 l' := by
  rw [← orL_or]; simp [orL]
theorem orL_lt {b : Nat} {l : List Nat} {R : Nat} (hb : b < 2 ^ R) (h : ∀ t ∈ l, t < R) : orL b l < 2 ^ R := by
  induction l generalizing b with
  | nil => exact hb
  | cons t l ih =>
    exact ih (Nat.or_lt_two_pow hb (Nat.pow_lt_pow_right (by decide) (h t (by simp)))) (fun u hu => h u (by simp [hu]))

/-- The tuples of a relation. -/
def tupsL (x k : Nat) : List Nat := (List.range k).filter fun t => bitN x t == 1
theorem tupsL_yes (x k : Nat) (h : bitN x k = 1) : tupsL x (k + 1) = tupsL x k ++ [k] := by simp [tupsL, List.range_succ, h]
theorem tupsL_no (x k : Nat) (h : bitN x k ≠ 1) : tupsL x (k + 1) = tupsL x k := by simp [tupsL, List.range_succ, h]
theorem tupsL_len (x k : Nat) : (tupsL x k).length ≤ k := Nat.le_trans (List.length_filter_le _ _) (by simp)
theorem tupsL_mem {x k t : Nat} : t ∈ tupsL x k ↔ t < k ∧ bitN x t = 1 := by simp [tupsL]

/-- f keeps the relation: all that is made is in it. -/
def keepsN (x y m places : Nat) : Bool := (madeL x places (tupsL y (2 ^ places)) [] m).all fun t => bitN y t == 1
theorem keepsN_or {x y m places : Nat} : ((orL 0 (madeL x places (tupsL y (2 ^ places)) [] m)) ^^^ (orL 0 (madeL x places (tupsL y (2 ^ places)) [] m) &&& y) == 0) = keepsN x y m places := by
  unfold keepsN
  generalize madeL x places (tupsL y (2 ^ places)) [] m = l
  rw [Bool.eq_iff_iff, beq_iff_eq, List.all_eq_true]
  constructor
  · intro h t ht
    have := congrArg (fun z => z.testBit t) h
    simp only [Nat.testBit_xor, Nat.testBit_and, orL_bit, Nat.zero_testBit, Bool.false_or] at this
    have hc : l.contains t = true := by simpa using ht
    rw [hc] at this
    rw [beq_iff_eq, bitN_testBit]
    cases hy : y.testBit t
    · rw [hy] at this; simp at this
    · rfl
  · intro h
    apply Nat.eq_of_testBit_eq
    intro t
    simp only [Nat.testBit_xor, Nat.testBit_and, orL_bit, Nat.zero_testBit, Bool.false_or]
    cases hc : l.contains t
    · rfl
    · have := h t (by simpa using hc)
      rw [beq_iff_eq, bitN_testBit] at this
      cases hy : y.testBit t
      · rw [hy] at this; cases this
      · rfl
end Go.Proofs.Ytbdhlokbpbiijaa

/- RE1:
  What is a relation, in both packages; the laws' small functions on relations. -/
namespace Go.Proofs.Ytbdhlokbpbiijaa
open Go.RowKit

/-- (n, b) is a relation. -/
def isR (n b : Int) : Bool := decide (1 ≤ n ∧ n ≤ 4 ∧ 0 ≤ b ∧ b ≤ allN n)
theorem isR_false {n b : Int} (h : ¬ (1 ≤ n ∧ n ≤ 4 ∧ 0 ≤ b ∧ b ≤ allN n)) : isR n b = false := by simp only [isR, decide_eq_false h]
theorem isR_iff {n b : Int} : isR n b = true ↔ (1 ≤ n ∧ n ≤ 4 ∧ 0 ≤ b ∧ b ≤ allN n) := by simp [isR]

/-- The numbers of a relation. -/
structure ROk (n : Int) (x R : Nat) : Prop extends FOk n x R where
  h1 : 1 ≤ n
theorem rok {n b : Int} (h : isR n b = true) : ∃ x R : Nat, b = (x : Int) ∧ ROk n x R := by
  obtain ⟨h1, h4, hb, ha⟩ := isR_iff.1 h
  obtain ⟨x, R, e, ok⟩ := fok (n := n) (b := b) (isF_true (by omega) h4 hb ha)
  exact ⟨x, R, e, { ok with h1 := h1 }⟩
theorem ROk.is {n : Int} {x R : Nat} (ok : ROk n x R) : isR n (x : Int) = true := by
  obtain ⟨_, _, hb, ha⟩ := isF_iff.1 ok.toFOk.is
  exact isR_iff.2 ⟨ok.h1, ok.h4, hb, ha⟩

set_option maxRecDepth 100000 in
set_option maxHeartbeats 1000000 in
theorem l06Is_any (n b : Int) (w : World) :
    Calls Try.prog 130 #[.agg #[.int .i64 n, .int .i64 b]] w fun e w' => e = .returned (.bool (isR n b)) ∧ Below w.heap.size w w' := by
  by_cases h : 1 ≤ n ∧ n ≤ 4
  · have H1 := inB_true h.1 h.2
    obtain ⟨h1, h4⟩ := h
    have h0 : 0 ≤ n := by omega
    rw [show isR n b = inB b 0 (allN n) by simp [isR, inB, h1, h4]]
    generalize hx : inB b 0 (allN n) = x
    go_enter Try.func130, Try.ntmps130
    go_wp2
    go_quiet (first | (go_at_call 105; exact quiet_eq (l01In_is (by assumption) _)) | (go_at_call 123; exact quiet_eq (l01All_any _ h0 h4 _)))
    go_wp2
    go_ret
    exact ⟨rfl, below_drewN ((Below.refl _ _).alloc (Nat.le_refl _) _) _⟩
  · have H1 := inB_false h
    rw [isR_false (by omega)]
    clear h
    go_enter Try.func130, Try.ntmps130
    go_wp2
    go_quiet (first | (go_at_call 105; exact quiet_eq (l01In_is (by assumption) _)))
    go_wp2
    go_ret
    exact ⟨rfl, below_drewN ((Below.refl _ _).alloc (Nat.le_refl _) _) _⟩


theorem l06Is_is {n b : Int} {x : Bool} (h : isR n b = x) (w : World) :
    Calls Try.prog 130 #[.agg #[.int .i64 n, .int .i64 b]] w fun e w' => e = .returned (.bool x) ∧ Below w.heap.size w w' := h ▸ l06Is_any n b w

set_option maxRecDepth 100000 in
set_option maxHeartbeats 4000000 in
theorem rb_0 (w : World) : Calls Try.prog 185 #[.int .i64 0] w fun e w' => e = .returned (.int .i64 ((2 ^ 1 - 1 : Nat) : Int)) ∧ w = w' := by
  go_enter Try.func185, Try.ntmps185
  go_wp2
  go_ret
  exact ⟨rfl, rfl⟩
set_option maxRecDepth 100000 in
set_option maxHeartbeats 4000000 in
theorem rb_1 (w : World) : Calls Try.prog 185 #[.int .i64 1] w fun e w' => e = .returned (.int .i64 ((2 ^ 2 - 1 : Nat) : Int)) ∧ w = w' := by
  go_enter Try.func185, Try.ntmps185
  go_wp2
  go_ret
  exact ⟨rfl, rfl⟩
set_option maxRecDepth 100000 in
set_option maxHeartbeats 4000000 in
theorem rb_2 (w : World) : Calls Try.prog 185 #[.int .i64 2] w fun e w' => e = .returned (.int .i64 ((2 ^ 4 - 1 : Nat) : Int)) ∧ w = w' := by
  go_enter Try.func185, Try.ntmps185
  go_wp2
  go_ret
  exact ⟨rfl, rfl⟩
set_option maxRecDepth 100000 in
set_option maxHeartbeats 4000000 in
theorem rb_3 (w : World) : Calls Try.prog 185 #[.int .i64 3] w fun e w' => e = .returned (.int .i64 ((2 ^ 8 - 1 : Nat) : Int)) ∧ w = w' := by
  go_enter Try.func185, Try.ntmps185
  go_wp2
  go_ret
  exact ⟨rfl, rfl⟩
set_option maxRecDepth 100000 in
set_option maxHeartbeats 4000000 in
theorem rb_4 (w : World) : Calls Try.prog 185 #[.int .i64 4] w fun e w' => e = .returned (.int .i64 ((2 ^ 16 - 1 : Nat) : Int)) ∧ w = w' := by
  go_enter Try.func185, Try.ntmps185
  go_wp2
  go_ret
  exact ⟨rfl, rfl⟩
theorem greatestBits_any {n : Int} (h0 : 0 ≤ n) (h4 : n ≤ 4) (w : World) :
    Calls Try.prog 185 #[.int .i64 n] w fun e w' => e = .returned (.int .i64 (allN n)) ∧ w = w' := by
  rcases five h0 h4 with rfl | rfl | rfl | rfl | rfl
  · rw [show allN 0 = ((2 ^ 1 - 1 : Nat) : Int) by decide]; exact rb_0 w
  · rw [show allN 1 = ((2 ^ 2 - 1 : Nat) : Int) by decide]; exact rb_1 w
  · rw [show allN 2 = ((2 ^ 4 - 1 : Nat) : Int) by decide]; exact rb_2 w
  · rw [show allN 3 = ((2 ^ 8 - 1 : Nat) : Int) by decide]; exact rb_3 w
  · rw [show allN 4 = ((2 ^ 16 - 1 : Nat) : Int) by decide]; exact rb_4 w

set_option maxRecDepth 100000 in
set_option maxHeartbeats 1000000 in
theorem IsRelation_any (n b : Int) (w : World) :
    Calls Try.prog 126 #[.agg #[.int .i64 n, .int .i64 b]] w fun e w' => e = .returned (.bool (isR n b)) ∧ Below w.heap.size w w' := by
  by_cases h1 : 1 ≤ n
  · by_cases h4 : n ≤ 4
    · by_cases hb : 0 ≤ b
      · have h0 : 0 ≤ n := by omega
        have HG := Lib.hid (greatestBits_any h0 h4)
        rw [show isR n b = decide (b ≤ allN n) by simp [isR, h1, h4, hb]]
        generalize allN n = al at HG ⊢
        go_enter Try.func126, Try.ntmps126
        go_wp2
        go_quiet (first | (go_at_call 185; exact quiet_eq (HG.out _)))
        go_wp2
        go_ret
        exact ⟨rfl, below_drewN ((Below.refl _ _).alloc (Nat.le_refl _) _) _⟩
      · rw [isR_false (by omega)]
        have hd : decide (0 ≤ b) = false := by simpa using hb
        go_enter Try.func126, Try.ntmps126
        go_wp2
        go_quiet (fail)
        go_wp2
        go_ret
        exact ⟨rfl, below_drewN ((Below.refl _ _).alloc (Nat.le_refl _) _) _⟩
    · rw [isR_false (by omega)]
      have hd : decide (n ≤ 4) = false := by simpa using h4
      go_enter Try.func126, Try.ntmps126
      go_wp2
      go_quiet (fail)
      go_wp2
      go_ret
      exact ⟨rfl, below_drewN ((Below.refl _ _).alloc (Nat.le_refl _) _) _⟩
  · rw [isR_false (by omega)]
    have hd : decide (1 ≤ n) = false := by simpa using h1
    go_enter Try.func126, Try.ntmps126
    go_wp2
    go_quiet (fail)
    go_wp2
    go_ret
    exact ⟨rfl, below_drewN ((Below.refl _ _).alloc (Nat.le_refl _) _) _⟩
theorem IsRelation_is {n b : Int} {x : Bool} (h : isR n b = x) (w : World) :
    Calls Try.prog 126 #[.agg #[.int .i64 n, .int .i64 b]] w fun e w' => e = .returned (.bool x) ∧ Below w.heap.size w w' := h ▸ IsRelation_any n b w

theorem ansBoxR (n b : Int) (w : World) : ∃ W1, w.alloc (.cells #[.int .i64 n, .int .i64 b] 48) = W1 ∧ W1.cell? ⟨w.heap.size, 0, none⟩ = some (.int .i64 n) ∧ W1.cell? ⟨w.heap.size, 1, none⟩ = some (.int .i64 b) ∧ Below w.heap.size w W1 :=
  ⟨_, rfl, by simp [go_sem], by simp [go_sem], bnew _ _⟩


end Go.Proofs.Ytbdhlokbpbiijaa

/- RE2:
  The tuples of a relation as a list in the model; CountTuples in both packages. -/
namespace Go.Proofs.Ytbdhlokbpbiijaa
open Go.RowKit
set_option linter.unusedVariables false
set_option linter.unusedSimpArgs false

theorem owns_len {W : World} {base : Nat} {s : Value} {xs : List Int} {m : Nat} (h : Owns W base s xs) (hx : xs.length = m) : ∃ a cap, s = .slice a m cap := by
  rcases h.shape with ⟨e, a, cap, rfl⟩ | ⟨hn, g, cap, rfl, _⟩
  · rw [e] at hx; simp at hx; subst hx; exact ⟨_, _, rfl⟩
  · rw [hx]; exact ⟨_, _, rfl⟩

/-- Natural numbers as a list of numbers. -/
def nI (l : List Nat) : List Int := l.map fun (j : Nat) => (j : Int)
theorem nI_snoc (l : List Nat) (a : Nat) : nI (l ++ [a]) = nI l ++ [(a : Int)] := by simp [nI]
theorem nI_length (l : List Nat) : (nI l).length = l.length := by simp [nI]
theorem nI_get (l : List Nat) (j : Nat) (h : j < l.length) : (nI l)[j]?.getD 0 = (l[j]?.getD 0 : Nat) := by simp [nI, h]

set_option maxRecDepth 100000 in
set_option maxHeartbeats 2000000 in
theorem l06List_any {n : Int} {x R : Nat} (ok : FOk n x R) (w : World) :
    Calls Try.prog 131 #[.agg #[.int .i64 n, .int .i64 (x : Int)]] w (ListPost w.heap.size (nI (tupsL x R)) w) := by
  obtain ⟨i0, hi, hz0, hz1, hz2⟩ := info_parts infoI
  have r16 := ok.r16
  obtain ⟨W1, hW1⟩ : ∃ W1, w.alloc (.cells #[.int .i64 n, .int .i64 (x : Int)] 48) = W1 := ⟨_, rfl⟩
  have p0 : W1.cell? ⟨w.heap.size, 0, none⟩ = some (.int .i64 n) := by rw [← hW1]; simp [go_sem]
  have p1 : W1.cell? ⟨w.heap.size, 1, none⟩ = some (.int .i64 (x : Int)) := by rw [← hW1]; simp [go_sem]
  have hB : Below w.heap.size w W1 := by rw [← hW1]; exact bnew _ _
  have l0 : w.heap.size < W1.heap.size := cell_lt p0
  go_enter Try.func131, Try.ntmps131
  go_wp2
  clear hW1
  go_loopw [3, 4] (fun s i' wr => ∃ k : Nat, k ≤ R ∧ i' = .int .i64 k ∧ Owns wr W1.heap.size s (nI (tupsL x k)) ∧ Below W1.heap.size W1 wr)
    (fun _ i' _ => R - (intOf i').toNat)
  case atStart => exact ⟨0, Nat.zero_le _, rfl, World.ownsRow_lit W1 #[] 0 (Nat.le_refl _) (by decide) rfl, bnew _ _⟩
  case round =>
    obtain ⟨k, hk, rfl, hown, hN⟩ := hrel
    have hsz := hN.size
    have q0 := kc hN p0
    have q1 := kc hN p1
    by_cases hlt : k < R
    · have E := digit_eq x k ok.hx
      have hlen : (nI (tupsL x k)).length ≤ k := by rw [nI_length]; exact tupsL_len x k
      unfold Owns at hown
      by_cases hb : bitN x k = 1
      · have HS := Lib.hid (tupsL_yes x k hb)
        have ht : ((bitN x k : Int) == 1) = true := by simp [hb]
        clear hb
        go_wp2_with (first
          | (go_at_call 116; refine (l01Rows_is ok.h0 ok.h4 ok.hR _).mono ?_; rintro e w' ⟨rfl, rfl⟩)
          | (at_builtin; refine wpList_append_own _ rfl _ _ 27 rfl W1.heap.size 2 i0 (.int .i64 0) 1 8 Try.underlying27 hi hz0 hz1 hz2 rfl (by decide) _ _ _ rfl (hown.alloc _) ⟨wr.heap.size, 0, none⟩ 1 1 [.int .i64 (k : Int)] rfl rfl (cell_one_new _ _ _) (one_cell_int _) (by unfold maxLen; omega) (by omega) (by simp; omega) ?_))
        intro v' w1 hown' hgrow _
        have hN' := (balloc hN (.cells #[.int .i64 (k : Int)] 2)).grown hgrow (by simp; omega) (fun j e => (World.ownsRow.lt hown j e).1)
        clear hgrow hown hN E
        go_wp2
        go_roundw
        case rel => exact ⟨k + 1, by omega, by go_num, by rw [HS.out, nI_snoc]; unfold Owns; rw [ints_snoc, List.length_append]; exact hown', hN'⟩
        case measure => simp [intOf]; omega
      · have HS := Lib.hid (tupsL_no x k hb)
        have ht : ((bitN x k : Int) == 1) = false := by simp; omega
        clear hb
        go_wp2_with (first
          | (go_at_call 116; refine (l01Rows_is ok.h0 ok.h4 ok.hR _).mono ?_; rintro e w' ⟨rfl, rfl⟩))
        go_roundw
        case rel => exact ⟨k + 1, by omega, by go_num, by rw [HS.out]; exact hown, hN⟩
        case measure => simp [intOf]; omega
    · obtain rfl : k = R := by omega
      have ho := Lib.hid (hown.mono hB.size)
      have hBN := bthen hB hN
      clear hown hN
      go_wp2_with (first
        | (go_at_call 116; refine (l01Rows_is ok.h0 ok.h4 ok.hR _).mono ?_; rintro e w' ⟨rfl, rfl⟩))
      go_ret
      exact ⟨_, rfl, ho.out, hBN⟩

theorem tups_ones (x k : Nat) : (tupsL x k).length = ones x k := by
  induction k with
  | zero => rfl
  | succ k ih =>
    by_cases h : bitN x k = 1
    · rw [tupsL_yes x k h, List.length_append, ih]; simp [ones, h]
    · have h0 : bitN x k = 0 := by have := bitN_le x k; omega
      rw [tupsL_no x k h, ih]; simp [ones, h0]

set_option maxRecDepth 100000 in
set_option maxHeartbeats 2000000 in
theorem implCountTuples_no {n b : Int} (h : isR n b = false) (w : World) :
    Calls Try.prog 47 #[.agg #[.int .i64 n, .int .i64 b]] w fun e w' => e = .returned (.tuple #[.int .i64 0, .int .i64 1]) ∧ Below w.heap.size w w' := by
  go_enter Try.func47, Try.ntmps47
  go_wp2_with (first
    | (go_at_call 126; refine (IsRelation_is h _).mono ?_; rintro e w2 ⟨rfl, hb2⟩))
  go_ret2
  exact ⟨rfl, bthen (bnew _ _) hb2⟩

set_option maxRecDepth 100000 in
set_option maxHeartbeats 2000000 in
theorem implCountTuples_yes {n : Int} {x R : Nat} (ok : ROk n x R) (w : World) :
    Calls Try.prog 47 #[.agg #[.int .i64 n, .int .i64 (x : Int)]] w fun e w' => e = .returned (.tuple #[.int .i64 (ones x R : Int), .int .i64 0]) ∧ Below w.heap.size w w' := by
  have h := ok.is
  have hx16 : x < 65536 := by
    have h1 := ok.hB
    have h2 : (2 : Nat) ^ R ≤ 2 ^ 16 := Nat.pow_le_pow_right (by decide) ok.r16
    omega
  rw [← ok.toFOk.ones]
  obtain ⟨W1, hW1⟩ : ∃ W1, w.alloc (.cells #[.int .i64 n, .int .i64 (x : Int)] 48) = W1 := ⟨_, rfl⟩
  have p0 : W1.cell? ⟨w.heap.size, 0, none⟩ = some (.int .i64 n) := by rw [← hW1]; simp [go_sem]
  have p1 : W1.cell? ⟨w.heap.size, 1, none⟩ = some (.int .i64 (x : Int)) := by rw [← hW1]; simp [go_sem]
  have hB : Below w.heap.size w W1 := by rw [← hW1]; exact bnew _ _
  have eu : IntKind.u64.wrap (x : Int) = (x : Int) := by simp [IntKind.wrap, IntKind.bits, IntKind.signed]; omega
  go_enter Try.func47, Try.ntmps47
  go_wp2_with (first
    | (go_at_call 126; refine (IsRelation_is h _).mono ?_; rintro e w2 ⟨rfl, hb2⟩; have q0 := kc hb2 p0; have q1 := kc hb2 p1; have hB2 := bthen hB hb2; clear p0 p1)
    | (go_at_call 137; refine (onesCount_any x hx16 _).mono ?_; rintro e w' ⟨rfl, rfl⟩))
  go_ret2
  exact ⟨rfl, hB2⟩

end Go.Proofs.Ytbdhlokbpbiijaa

/- NP1:
  Functions put into a function in all ways, as a function that is ranged over: the part that calls itself. -/
namespace Go.Proofs.Ytbdhlokbpbiijaa
open Go.RowKit Go.Shelf
attribute [local go_sem] Oper.semAt_some
set_option linter.unusedVariables false
set_option linter.unusedSimpArgs false

theorem owns_above {S : Nat → Prop} {W W' : World} {base : Nat} {s : Value} {xs : List Int} (h : Owns W base s xs) (ha : Above S W W') (hs : ∀ k, s.ownBlock = some k → S k) : Owns W' base s xs := by
  obtain ⟨h1, h2 | ⟨g, cap, cur, e1, e2, e3, r⟩⟩ := h
  · exact ⟨h1, .inl h2⟩
  · exact ⟨h1, .inr ⟨g, cap, cur, e1, e2, (ha.same g (hs g (by rw [e1]; rfl)) (Array.getElem?_eq_some_iff.1 e3).1).trans e3, r⟩⟩
theorem cell_above {S : Nat → Prop} {W W' : World} (ha : Above S W W') {b o : Nat} {u : Value} (hb : S b) (h : W.cell? ⟨b, o, none⟩ = some u) : W'.cell? ⟨b, o, none⟩ = some u := by
  have hl := cell_lt h
  have := ha.same b hb hl
  simp only [World.cell?, this] at h ⊢
  exact h
theorem cell_of_owns {W : World} {base : Nat} {s : Value} {xs : List Int} {g cap : Nat} (h : Owns W base s xs) (e : s = .slice (some ⟨g, 0, none⟩) xs.length cap) (j : Nat) (x : Int) (hx : xs[j]? = some x) : W.cell? ⟨g, j, none⟩ = some (.int .i64 x) := by
  subst e
  have hj : j < xs.length := (List.getElem?_eq_some_iff.1 hx).1
  have := World.ownsRow.cellAt h j (by omega)
  rw [this]
  simp [ints, hx]
theorem frozen_of_owns {W : World} {base : Nat} {xs : List Int} {g cap : Nat} (h : Owns W base (.slice (some ⟨g, 0, none⟩) xs.length cap) xs) (j : Nat) : W.frozen? ⟨g, j, none⟩ = false := World.ownsRow.frozenAt h j
theorem owns_set {W : World} {base g n cap : Nat} {xs : List Int} (h : Owns W base (.slice (some ⟨g, 0, none⟩) n cap) xs) (hn : n = xs.length) (j : Nat) (x : Int) : Owns (W.setCell ⟨g, j, none⟩ (.int .i64 x)) base (.slice (some ⟨g, 0, none⟩) n cap) (xs.set j x) := by
  subst hn
  have := (World.ownsRow.stored h j (.int .i64 x)).1
  unfold Owns
  rw [List.length_set, ints, List.map_set]
  exact this
theorem grownSet (W : World) (b o : Nat) (v : Value) : W.grownBy (W.setCell ⟨b, o, none⟩ v) (some b) :=
  ⟨rfl, rfl, rfl, (KeepsWalks.setCell W _ v).size, fun k _ hk => Below.heap_setCell _ _ _ k (fun e => hk (by rw [e]))⟩
theorem owns_other {W : World} {base : Nat} {s : Value} {xs : List Int} (h : Owns W base s xs) (g j : Nat) (v : Value) (hs : ∀ k, s.ownBlock = some k → k ≠ g) : Owns (W.setCell ⟨g, j, none⟩ v) base s xs := by
  refine World.ownsRow.kept h (grownSet W g j v) ?_
  cases e : s.ownBlock with
  | none => exact .inl rfl
  | some k => exact .inr (fun e' => hs k e (by cases e'; rfl))

/-- A list with places set one after the other. -/
def setsN (tr : List Int) (F : Nat) (f : Nat → Int) : Nat → List Int
  | 0 => tr
  | k + 1 => (setsN tr F f k).set (F + k) (f k)
theorem setsN_length (tr : List Int) (F : Nat) (f : Nat → Int) (k : Nat) : (setsN tr F f k).length = tr.length := by
  induction k with
  | zero => rfl
  | succ k ih => simp [setsN, ih]
theorem setsN_out (tr : List Int) (F : Nat) (f : Nat → Int) (k j : Nat) (h : j < F ∨ F + k ≤ j) : (setsN tr F f k)[j]? = tr[j]? := by
  induction k with
  | zero => rfl
  | succ k ih => rw [setsN, List.getElem?_set_ne (by omega), ih (by omega)]
theorem setsN_in (tr : List Int) (F : Nat) (f : Nat → Int) (k q : Nat) (h : q < k) (hl : F + k ≤ tr.length) : (setsN tr F f k)[F + q]? = some (f q) := by
  induction k with
  | zero => omega
  | succ k ih =>
    rw [setsN]
    by_cases e : q = k
    · subst e; rw [List.getElem?_set_self (by rw [setsN_length]; omega)]
    · rw [List.getElem?_set_ne (by omega), ih (by omega) (by omega)]

/-- What is handed out: the list of what was put in, and what arises. -/
abbrev Out := Value × Row 16
def encS (x : Out) : Array Value := #[x.1, .int .i64 (x.2.1 : Int)]
def outOf (sp : Value) {v : Nat → Nat} (hv : ∀ q, v q < 2 ^ 4) (p : List Nat) : Out := (sp, ⟨levF v p 0, levF_lt hv p 0⟩)

theorem sel_ops : ∀ a : Nat, a < 16 → ∀ b : Nat, b < 16 → ∀ g : Nat, g < 16 → bits .or .i64 (bits .andNot .i64 (a : Int) (g : Int)) (bits .and .i64 (b : Int) (g : Int)) = ((selN a b g : Nat) : Int) := by decide +kernel
end Go.Proofs.Ytbdhlokbpbiijaa

/- ID10:
  KindCounts in both packages. -/
namespace Go.Proofs.Ytbdhlokbpbiijaa
open Go.RowKit Go.Shelf
set_option linter.unusedVariables false
set_option linter.unusedSimpArgs false

/-- The counts of the numbers below k. -/
def kcL (n R k : Nat) : List Int := [(cntTo (fun x => idB x R) k : Int), (cntTo (fun x => symB x R) k : Int), (cntTo (fun x => idB x R && symB x R) k : Int), (cntTo (fun x => nearB n x R) k : Int)]
theorem near_idem {n x R : Nat} (h : nearB n x R = true) : idB x R = true := by
  unfold nearB at h
  simp only [Bool.and_eq_true] at h
  exact h.2.2

set_option maxRecDepth 100000 in
set_option maxHeartbeats 8000000 in
theorem implKindCounts_no {n : Int} (h : inB n 0 4 = false) (w : World) :
    Calls Try.prog 64 #[.int .i64 n] w (ListCodePost w.heap.size [] 2 w) := by
  go_enter Try.func64, Try.ntmps64
  go_wp2_with (go_at_call 90; refine (isArity_is h _).mono ?_; rintro e w' ⟨rfl, rfl⟩)
  go_ret2
  exact ⟨_, rfl, Owns.nil _ _, Below.refl _ _⟩

set_option maxRecDepth 100000 in
set_option maxHeartbeats 8000000 in
theorem specKindCounts_no {n : Int} (h : inB n 0 4 = false) (w : World) :
    Calls Try.prog 65 #[.int .i64 n] w (ListCodePost w.heap.size [] 2 w) := by
  go_enter Try.func65, Try.ntmps65
  go_wp2_with (go_at_call 105; refine (l01In_is h _).mono ?_; rintro e w' ⟨rfl, rfl⟩)
  go_ret2
  exact ⟨_, rfl, Owns.nil _ _, Below.refl _ _⟩

theorem countKd0 {n : Int} {R T : Nat} (h0 : 0 ≤ n) (h4 : n ≤ 4) (r0 : 0 < R) (r16 : R ≤ 16) (hR : Hid (rowsN n = (R : Int))) (hT : Hid (T = 2 ^ R)) (hT0 : 0 < T) (hT16 : T ≤ 65536) (ok : ∀ x, x < T → FOk n x R) (W : World) :
    Calls Try.prog 121 #[.int .i64 n, .func (.func 147) #[] #[]] W fun e W' => e = .returned (.int .i64 (cntTo (fun x => idB x R) T : Int)) ∧ Below W.heap.size W W' :=
  countFuncs_any n h0 h4 R T r0 r16 hR hT hT0 hT16 147 #[] (enters_of Try.func147 (by kernel_rfl) rfl)
    (fun x => idB x R) W (Lib.hid fun W' _ x hx => isIdempotent_any (ok x hx) W')

theorem countKd1 {n : Int} {R T : Nat} (h0 : 0 ≤ n) (h4 : n ≤ 4) (r0 : 0 < R) (r16 : R ≤ 16) (hR : Hid (rowsN n = (R : Int))) (hT : Hid (T = 2 ^ R)) (hT0 : 0 < T) (hT16 : T ≤ 65536) (ok : ∀ x, x < T → FOk n x R) (W : World) :
    Calls Try.prog 121 #[.int .i64 n, .func (.func 149) #[] #[]] W fun e W' => e = .returned (.int .i64 (cntTo (fun x => symB x R) T : Int)) ∧ Below W.heap.size W W' :=
  countFuncs_any n h0 h4 R T r0 r16 hR hT hT0 hT16 149 #[] (enters_of Try.func149 (by kernel_rfl) rfl)
    (fun x => symB x R) W (Lib.hid fun W' _ x hx => isSymmetric_any (ok x hx) W')

theorem countKd2 {n : Int} {R T : Nat} (h0 : 0 ≤ n) (h4 : n ≤ 4) (r0 : 0 < R) (r16 : R ≤ 16) (hR : Hid (rowsN n = (R : Int))) (hT : Hid (T = 2 ^ R)) (hT0 : 0 < T) (hT16 : T ≤ 65536) (ok : ∀ x, x < T → FOk n x R) (W : World) :
    Calls Try.prog 121 #[.int .i64 n, .func (.func 151) #[] #[]] W fun e W' => e = .returned (.int .i64 (cntTo (fun x => idB x R && symB x R) T : Int)) ∧ Below W.heap.size W W' :=
  countFuncs_any n h0 h4 R T r0 r16 hR hT hT0 hT16 151 #[] (enters_of Try.func151 (by kernel_rfl) rfl)
    (fun x => idB x R && symB x R) W (Lib.hid fun W' _ x hx => isIdempotentAndSymmetric_any (ok x hx) W')

theorem countKd3 {n : Int} {R T : Nat} (h0 : 0 ≤ n) (h4 : n ≤ 4) (r0 : 0 < R) (r16 : R ≤ 16) (hR : Hid (rowsN n = (R : Int))) (hT : Hid (T = 2 ^ R)) (hT0 : 0 < T) (hT16 : T ≤ 65536) (ok : ∀ x, x < T → FOk n x R) (W : World) :
    Calls Try.prog 121 #[.int .i64 n, .func (.func 152) #[] #[]] W fun e W' => e = .returned (.int .i64 (cntTo (fun x => nearB n.toNat x R) T : Int)) ∧ Below W.heap.size W W' :=
  countFuncs_any n h0 h4 R T r0 r16 hR hT hT0 hT16 152 #[] (enters_of Try.func152 (by kernel_rfl) rfl)
    (fun x => nearB n.toNat x R) W (Lib.hid fun W' _ x hx => hasNearUnanimity_any (ok x hx) W')

set_option maxRecDepth 100000 in
set_option maxHeartbeats 8000000 in
theorem implKindCounts_yes {n : Int} {R T : Nat} (h0 : 0 ≤ n) (h4 : n ≤ 4) (r0 : 0 < R) (r16 : R ≤ 16) (hR : Hid (rowsN n = (R : Int))) (hT : Hid (T = 2 ^ R)) (hT0 : 0 < T) (hT16 : T ≤ 65536) (ok : ∀ x, x < T → FOk n x R) (h : inB n 0 4 = true) (w : World) :
    Calls Try.prog 64 #[.int .i64 n] w (ListCodePost w.heap.size (kcL n.toNat R T) 0 w) := by
  have C0 := Lib.hid (countKd0 h0 h4 r0 r16 hR hT hT0 hT16 ok)
  have C1 := Lib.hid (countKd1 h0 h4 r0 r16 hR hT hT0 hT16 ok)
  have C2 := Lib.hid (countKd2 h0 h4 r0 r16 hR hT hT0 hT16 ok)
  have C3 := Lib.hid (countKd3 h0 h4 r0 r16 hR hT hT0 hT16 ok)
  unfold kcL
  generalize cntTo (fun x => idB x R) T = k0 at C0 ⊢
  generalize cntTo (fun x => symB x R) T = k1 at C1 ⊢
  generalize cntTo (fun x => idB x R && symB x R) T = k2 at C2 ⊢
  generalize cntTo (fun x => nearB n.toNat x R) T = k3 at C3 ⊢
  clear hT hT0 hT16 ok hR r0 r16
  go_enter Try.func64, Try.ntmps64
  go_wp2_with (first
    | (go_at_call 90; refine (isArity_is h _).mono ?_; rintro e w' ⟨rfl, rfl⟩)
    | (go_at_call 121; with_reducible refine (C0.out _).mono ?_; rintro e w2 ⟨rfl, hb2⟩)
    | (go_at_call 121; with_reducible refine (C1.out _).mono ?_; rintro e w3 ⟨rfl, hb3⟩)
    | (go_at_call 121; with_reducible refine (C2.out _).mono ?_; rintro e w4 ⟨rfl, hb4⟩)
    | (go_at_call 121; with_reducible refine (C3.out _).mono ?_; rintro e w5 ⟨rfl, hb5⟩))
  go_ret2
  refine ⟨_, rfl, ?_, balloc (bthen (bthen (bthen hb2 hb3) hb4) hb5) _⟩
  exact Owns.mono (World.ownsRow_lit w5 #[.int .i64 (k0 : Int), .int .i64 (k1 : Int), .int .i64 (k2 : Int), .int .i64 (k3 : Int)] 4 (Nat.le_refl _) (by decide) rfl) (bthen (bthen (bthen hb2 hb3) hb4) hb5).size

set_option maxRecDepth 100000 in
set_option maxHeartbeats 8000000 in
theorem specKindCounts_yes {n : Int} {R T : Nat} (h0 : 0 ≤ n) (h4 : n ≤ 4) (hT0 : 0 < T) (hT16 : T ≤ 65536) (hA : Hid (allN n = (T : Int) - 1)) (ok : ∀ x, x < T → FOk n x R) (h : inB n 0 4 = true) (w : World) :
    Calls Try.prog 65 #[.int .i64 n] w (ListCodePost w.heap.size (kcL n.toNat R T) 0 w) := by
  obtain ⟨i0, hi, hz0, hz1, hz2⟩ := info_parts infoI
  have hmk : ∀ (W : World), (Instr.makeSlice 27 (.int .i64 4) (.int .i64 4)).run Try.prog W = .ok (.slice (some ⟨W.heap.size, 0, none⟩) 4 4) (W.alloc (.cells #[.int .i64 0, .int .i64 0, .int .i64 0, .int .i64 0] 2)) := fun W => by
    have h := run_make (P := Try.prog) W 27 2 i0 (.int .i64 0) Try.underlying27 hi hz0 .i64 .i64 4 4 (by omega) (by omega) (by rw [hz2]; omega) (by omega)
    have e : madeCells (Value.int .i64 0).cells 4 = #[.int .i64 0, .int .i64 0, .int .i64 0, .int .i64 0] := by
      apply Array.ext'
      exact toList_madeCells_one (.int .i64 0) 4
    rw [hz1] at h
    simpa [e] using h
  have AT := Lib.hid (fun W => l01All_top h0 h4 hA W)
  go_enter Try.func65, Try.ntmps65
  go_wp2_with (go_at_call 105; refine (l01In_is h _).mono ?_; rintro e w' ⟨rfl, rfl⟩)
  have O0 : Owns (w.alloc (.cells #[.int .i64 0, .int .i64 0, .int .i64 0, .int .i64 0] 2)) w.heap.size (.slice (some ⟨w.heap.size, 0, none⟩) 4 4) (kcL n.toNat R 0) := World.ownsRow_lit w #[.int .i64 0, .int .i64 0, .int .i64 0, .int .i64 0] 4 (Nat.le_refl _) (by decide) rfl
  have hN0 := bnew w (.cells #[.int .i64 0, .int .i64 0, .int .i64 0, .int .i64 0] 2)
  generalize hV : w.alloc (.cells #[.int .i64 0, .int .i64 0, .int .i64 0, .int .i64 0] 2) = V at O0 hN0
  have hV1 : w.heap.size + 1 ≤ V.heap.size := by rw [← hV]; simp
  clear hmk hV
  go_loopw [5] (fun b' wr => ∃ b : Nat, b ≤ T ∧ b' = .int .i64 b ∧ Hid (Owns wr w.heap.size (.slice (some ⟨w.heap.size, 0, none⟩) 4 4) (kcL n.toNat R b)) ∧ (Below w.heap.size w wr ∧ w.heap.size + 1 ≤ wr.heap.size)) (fun b' _ => T - (intOf b').toNat)
  case atStart => exact ⟨0, by omega, rfl, Lib.hid O0, hN0, hV1⟩
  case round =>
    clear O0 hN0 hV1
    obtain ⟨b, hb, rfl, HO, hN, hsz⟩ := hrel
    by_cases hlt : b < T
    · have ID := Lib.hid (fun W => l10Idem_any (ok b hlt) W)
      have SY := Lib.hid (fun W => l10Symmetric_any (ok b hlt) W)
      have NE := Lib.hid (fun W => l10Near_any (ok b hlt) W)
      have nb := near_idem (n := n.toNat) (x := b) (R := R)
      have HS := Lib.hid (show kcL n.toNat R (b + 1) = [(cntTo (fun x => idB x R) b : Int) + ((idB b R).toNat : Int), (cntTo (fun x => symB x R) b : Int) + ((symB b R).toNat : Int), (cntTo (fun x => idB x R && symB x R) b : Int) + ((idB b R && symB b R).toNat : Int), (cntTo (fun x => nearB n.toNat x R) b : Int) + ((nearB n.toNat b R).toNat : Int)] by unfold kcL; rw [cntTo_succ, cntTo_succ, cntTo_succ, cntTo_succ]; simp)
      have l0 := cntTo_le (fun x => idB x R) b
      have l1 := cntTo_le (fun x => symB x R) b
      have l2 := cntTo_le (fun x => idB x R && symB x R) b
      have l3 := cntTo_le (fun x => nearB n.toNat x R) b
      unfold kcL at HO
      generalize cntTo (fun x => idB x R) b = c0 at HO HS l0
      generalize cntTo (fun x => symB x R) b = c1 at HO HS l1
      generalize cntTo (fun x => idB x R && symB x R) b = c2 at HO HS l2
      generalize cntTo (fun x => nearB n.toNat x R) b = c3 at HO HS l3
      have v0 : IntKind.i64.wrap ((c0 : Int) + 1) = (c0 : Int) + 1 := wrap64_in (by omega) (by omega)
      have v1 : IntKind.i64.wrap ((c1 : Int) + 1) = (c1 : Int) + 1 := wrap64_in (by omega) (by omega)
      have v2 : IntKind.i64.wrap ((c2 : Int) + 1) = (c2 : Int) + 1 := wrap64_in (by omega) (by omega)
      have v3 : IntKind.i64.wrap ((c3 : Int) + 1) = (c3 : Int) + 1 := wrap64_in (by omega) (by omega)
      clear l0 l1 l2 l3
      generalize idB b R = bi at ID HS nb
      generalize symB b R = bs at SY HS
      generalize nearB n.toNat b R = br at NE HS nb
      cases bi
      · obtain rfl : br = false := by cases br; rfl; exact absurd (nb rfl) (by decide)
        clear nb
        cases bs

        · have HE := Lib.hid (show kcL n.toNat R (b + 1) = [(c0 : Int), (c1 : Int), (c2 : Int), (c3 : Int)] by rw [HS.out]; simp [Bool.toNat])
          clear HS
          go_wp2_with (go_at_call 123; refine (AT.out _).mono ?_; rintro e w' ⟨rfl, rfl⟩)
          go_region_held3 (fun w' => (w'.cell? ⟨wr.heap.size, 0, none⟩ = some (.int .i64 n) ∧ w'.cell? ⟨wr.heap.size, 1, none⟩ = some (.int .i64 (b : Int))) ∧ Below (wr.alloc (.cells #[.int .i64 n, .int .i64 (b : Int)] 25)).heap.size (wr.alloc (.cells #[.int .i64 n, .int .i64 (b : Int)] 25)) w') (first | exact ⟨⟨by simp [go_sem], by simp [go_sem]⟩, (Below.refl _ _).drew⟩ | assumption | exact step_heldC hb1 (by assumption))
            (first
              | (go_at_call 148; refine (ID.out _).mono ?_; rintro e w' ⟨rfl, hb1⟩)
              | (go_at_call 150; refine (SY.out _).mono ?_; rintro e w' ⟨rfl, hb1⟩))
          obtain ⟨⟨y0, y1⟩, hB3⟩ := (‹(_ ∧ _) ∧ Below _ _ _›)
          have O1 := (HO.out.below (bnew _ _)).below hB3
          have hN3 := (balloc hN _).trans (hB3.mono (Nat.le_trans hN.size (by simp)))
          have k0 := cell_of_owns O1 rfl 0 (c0 : Int) rfl
          have k1 := cell_of_owns O1 rfl 1 (c1 : Int) rfl
          have k2 := cell_of_owns O1 rfl 2 (c2 : Int) rfl
          have k3 := cell_of_owns O1 rfl 3 (c3 : Int) rfl
          have f0 := frozen_of_owns (show Owns _ _ (.slice _ [(c0 : Int), (c1 : Int), (c2 : Int), (c3 : Int)].length 4) [(c0 : Int), (c1 : Int), (c2 : Int), (c3 : Int)] from O1) 0
          have f1 := frozen_of_owns (show Owns _ _ (.slice _ [(c0 : Int), (c1 : Int), (c2 : Int), (c3 : Int)].length 4) [(c0 : Int), (c1 : Int), (c2 : Int), (c3 : Int)] from O1) 1
          have f2 := frozen_of_owns (show Owns _ _ (.slice _ [(c0 : Int), (c1 : Int), (c2 : Int), (c3 : Int)].length 4) [(c0 : Int), (c1 : Int), (c2 : Int), (c3 : Int)] from O1) 2
          have f3 := frozen_of_owns (show Owns _ _ (.slice _ [(c0 : Int), (c1 : Int), (c2 : Int), (c3 : Int)].length 4) [(c0 : Int), (c1 : Int), (c2 : Int), (c3 : Int)] from O1) 3
          have z0 := (cell_lt y0)
          have z1 : ¬ w.heap.size = wr.heap.size := by omega
          clear HO hN hB3
          go_wp2_with (go_at_call 153; refine (NE.out _).mono ?_; rintro e w7 ⟨rfl, hb7⟩; have O3 := O1.below hb7; have k3 := cell_of_owns O3 rfl 3 (c3 : Int) rfl; have f3 := frozen_of_owns (show Owns _ _ (.slice _ (List.length [_, _, _, _]) 4) [_, _, _, _] from O3) 3; have hN7 := bthen hN3 hb7; clear hN3 O1)
          go_roundw
          case rel => exact ⟨b + 1, by omega, by go_num, Lib.hid (by rw [HE.out]; exact O3), hN7, Nat.succ_le_of_lt (cell_lt (cell_of_owns O3 rfl 3 _ rfl))⟩
          case measure => simp [intOf]; omega
        · have HE := Lib.hid (show kcL n.toNat R (b + 1) = [(c0 : Int), (c1 : Int) + 1, (c2 : Int), (c3 : Int)] by rw [HS.out]; simp [Bool.toNat])
          clear HS
          go_wp2_with (go_at_call 123; refine (AT.out _).mono ?_; rintro e w' ⟨rfl, rfl⟩)
          go_region_held3 (fun w' => (w'.cell? ⟨wr.heap.size, 0, none⟩ = some (.int .i64 n) ∧ w'.cell? ⟨wr.heap.size, 1, none⟩ = some (.int .i64 (b : Int))) ∧ Below (wr.alloc (.cells #[.int .i64 n, .int .i64 (b : Int)] 25)).heap.size (wr.alloc (.cells #[.int .i64 n, .int .i64 (b : Int)] 25)) w') (first | exact ⟨⟨by simp [go_sem], by simp [go_sem]⟩, (Below.refl _ _).drew⟩ | assumption | exact step_heldC hb1 (by assumption))
            (first
              | (go_at_call 148; refine (ID.out _).mono ?_; rintro e w' ⟨rfl, hb1⟩)
              | (go_at_call 150; refine (SY.out _).mono ?_; rintro e w' ⟨rfl, hb1⟩))
          obtain ⟨⟨y0, y1⟩, hB3⟩ := (‹(_ ∧ _) ∧ Below _ _ _›)
          have O1 := (HO.out.below (bnew _ _)).below hB3
          have hN3 := (balloc hN _).trans (hB3.mono (Nat.le_trans hN.size (by simp)))
          have k0 := cell_of_owns O1 rfl 0 (c0 : Int) rfl
          have k1 := cell_of_owns O1 rfl 1 (c1 : Int) rfl
          have k2 := cell_of_owns O1 rfl 2 (c2 : Int) rfl
          have k3 := cell_of_owns O1 rfl 3 (c3 : Int) rfl
          have f0 := frozen_of_owns (show Owns _ _ (.slice _ [(c0 : Int), (c1 : Int), (c2 : Int), (c3 : Int)].length 4) [(c0 : Int), (c1 : Int), (c2 : Int), (c3 : Int)] from O1) 0
          have f1 := frozen_of_owns (show Owns _ _ (.slice _ [(c0 : Int), (c1 : Int), (c2 : Int), (c3 : Int)].length 4) [(c0 : Int), (c1 : Int), (c2 : Int), (c3 : Int)] from O1) 1
          have f2 := frozen_of_owns (show Owns _ _ (.slice _ [(c0 : Int), (c1 : Int), (c2 : Int), (c3 : Int)].length 4) [(c0 : Int), (c1 : Int), (c2 : Int), (c3 : Int)] from O1) 2
          have f3 := frozen_of_owns (show Owns _ _ (.slice _ [(c0 : Int), (c1 : Int), (c2 : Int), (c3 : Int)].length 4) [(c0 : Int), (c1 : Int), (c2 : Int), (c3 : Int)] from O1) 3
          have O1 := owns_set O1 rfl 1 ((c1 : Int) + 1)
          have hN3 := hN3.setCell (p := ⟨w.heap.size, 1, none⟩) (Nat.le_refl _) (.int .i64 ((c1 : Int) + 1))
          have z0 := (cell_lt y0)
          have z1 : ¬ w.heap.size = wr.heap.size := by omega
          clear HO hN hB3
          go_wp2_with (go_at_call 153; refine (NE.out _).mono ?_; rintro e w7 ⟨rfl, hb7⟩; have O3 := O1.below hb7; have k3 := cell_of_owns O3 rfl 3 (c3 : Int) rfl; have f3 := frozen_of_owns (show Owns _ _ (.slice _ (List.length [_, _, _, _]) 4) [_, _, _, _] from O3) 3; have hN7 := bthen hN3 hb7; clear hN3 O1)
          go_roundw
          case rel => exact ⟨b + 1, by omega, by go_num, Lib.hid (by rw [HE.out]; exact O3), hN7, Nat.succ_le_of_lt (cell_lt (cell_of_owns O3 rfl 3 _ rfl))⟩
          case measure => simp [intOf]; omega
      · clear nb
        cases bs
        · cases br
          · have HE := Lib.hid (show kcL n.toNat R (b + 1) = [(c0 : Int) + 1, (c1 : Int), (c2 : Int), (c3 : Int)] by rw [HS.out]; simp [Bool.toNat])
            clear HS
            go_wp2_with (go_at_call 123; refine (AT.out _).mono ?_; rintro e w' ⟨rfl, rfl⟩)
            go_region_held3 (fun w' => (w'.cell? ⟨wr.heap.size, 0, none⟩ = some (.int .i64 n) ∧ w'.cell? ⟨wr.heap.size, 1, none⟩ = some (.int .i64 (b : Int))) ∧ Below (wr.alloc (.cells #[.int .i64 n, .int .i64 (b : Int)] 25)).heap.size (wr.alloc (.cells #[.int .i64 n, .int .i64 (b : Int)] 25)) w') (first | exact ⟨⟨by simp [go_sem], by simp [go_sem]⟩, (Below.refl _ _).drew⟩ | assumption | exact step_heldC hb1 (by assumption))
              (first
                | (go_at_call 148; refine (ID.out _).mono ?_; rintro e w' ⟨rfl, hb1⟩)
                | (go_at_call 150; refine (SY.out _).mono ?_; rintro e w' ⟨rfl, hb1⟩))
            obtain ⟨⟨y0, y1⟩, hB3⟩ := (‹(_ ∧ _) ∧ Below _ _ _›)
            have O1 := (HO.out.below (bnew _ _)).below hB3
            have hN3 := (balloc hN _).trans (hB3.mono (Nat.le_trans hN.size (by simp)))
            have k0 := cell_of_owns O1 rfl 0 (c0 : Int) rfl
            have k1 := cell_of_owns O1 rfl 1 (c1 : Int) rfl
            have k2 := cell_of_owns O1 rfl 2 (c2 : Int) rfl
            have k3 := cell_of_owns O1 rfl 3 (c3 : Int) rfl
            have f0 := frozen_of_owns (show Owns _ _ (.slice _ [(c0 : Int), (c1 : Int), (c2 : Int), (c3 : Int)].length 4) [(c0 : Int), (c1 : Int), (c2 : Int), (c3 : Int)] from O1) 0
            have f1 := frozen_of_owns (show Owns _ _ (.slice _ [(c0 : Int), (c1 : Int), (c2 : Int), (c3 : Int)].length 4) [(c0 : Int), (c1 : Int), (c2 : Int), (c3 : Int)] from O1) 1
            have f2 := frozen_of_owns (show Owns _ _ (.slice _ [(c0 : Int), (c1 : Int), (c2 : Int), (c3 : Int)].length 4) [(c0 : Int), (c1 : Int), (c2 : Int), (c3 : Int)] from O1) 2
            have f3 := frozen_of_owns (show Owns _ _ (.slice _ [(c0 : Int), (c1 : Int), (c2 : Int), (c3 : Int)].length 4) [(c0 : Int), (c1 : Int), (c2 : Int), (c3 : Int)] from O1) 3
            have O1 := owns_set O1 rfl 0 ((c0 : Int) + 1)
            have hN3 := hN3.setCell (p := ⟨w.heap.size, 0, none⟩) (Nat.le_refl _) (.int .i64 ((c0 : Int) + 1))
            have z0 := (cell_lt y0)
            have z1 : ¬ w.heap.size = wr.heap.size := by omega
            clear HO hN hB3
            go_wp2_with (go_at_call 153; refine (NE.out _).mono ?_; rintro e w7 ⟨rfl, hb7⟩; have O3 := O1.below hb7; have k3 := cell_of_owns O3 rfl 3 (c3 : Int) rfl; have f3 := frozen_of_owns (show Owns _ _ (.slice _ (List.length [_, _, _, _]) 4) [_, _, _, _] from O3) 3; have hN7 := bthen hN3 hb7; clear hN3 O1)
            go_roundw
            case rel => exact ⟨b + 1, by omega, by go_num, Lib.hid (by rw [HE.out]; exact O3), hN7, Nat.succ_le_of_lt (cell_lt (cell_of_owns O3 rfl 3 _ rfl))⟩
            case measure => simp [intOf]; omega
          · have HE := Lib.hid (show kcL n.toNat R (b + 1) = [(c0 : Int) + 1, (c1 : Int), (c2 : Int), (c3 : Int) + 1] by rw [HS.out]; simp [Bool.toNat])
            clear HS
            go_wp2_with (go_at_call 123; refine (AT.out _).mono ?_; rintro e w' ⟨rfl, rfl⟩)
            go_region_held3 (fun w' => (w'.cell? ⟨wr.heap.size, 0, none⟩ = some (.int .i64 n) ∧ w'.cell? ⟨wr.heap.size, 1, none⟩ = some (.int .i64 (b : Int))) ∧ Below (wr.alloc (.cells #[.int .i64 n, .int .i64 (b : Int)] 25)).heap.size (wr.alloc (.cells #[.int .i64 n, .int .i64 (b : Int)] 25)) w') (first | exact ⟨⟨by simp [go_sem], by simp [go_sem]⟩, (Below.refl _ _).drew⟩ | assumption | exact step_heldC hb1 (by assumption))
              (first
                | (go_at_call 148; refine (ID.out _).mono ?_; rintro e w' ⟨rfl, hb1⟩)
                | (go_at_call 150; refine (SY.out _).mono ?_; rintro e w' ⟨rfl, hb1⟩))
            obtain ⟨⟨y0, y1⟩, hB3⟩ := (‹(_ ∧ _) ∧ Below _ _ _›)
            have O1 := (HO.out.below (bnew _ _)).below hB3
            have hN3 := (balloc hN _).trans (hB3.mono (Nat.le_trans hN.size (by simp)))
            have k0 := cell_of_owns O1 rfl 0 (c0 : Int) rfl
            have k1 := cell_of_owns O1 rfl 1 (c1 : Int) rfl
            have k2 := cell_of_owns O1 rfl 2 (c2 : Int) rfl
            have k3 := cell_of_owns O1 rfl 3 (c3 : Int) rfl
            have f0 := frozen_of_owns (show Owns _ _ (.slice _ [(c0 : Int), (c1 : Int), (c2 : Int), (c3 : Int)].length 4) [(c0 : Int), (c1 : Int), (c2 : Int), (c3 : Int)] from O1) 0
            have f1 := frozen_of_owns (show Owns _ _ (.slice _ [(c0 : Int), (c1 : Int), (c2 : Int), (c3 : Int)].length 4) [(c0 : Int), (c1 : Int), (c2 : Int), (c3 : Int)] from O1) 1
            have f2 := frozen_of_owns (show Owns _ _ (.slice _ [(c0 : Int), (c1 : Int), (c2 : Int), (c3 : Int)].length 4) [(c0 : Int), (c1 : Int), (c2 : Int), (c3 : Int)] from O1) 2
            have f3 := frozen_of_owns (show Owns _ _ (.slice _ [(c0 : Int), (c1 : Int), (c2 : Int), (c3 : Int)].length 4) [(c0 : Int), (c1 : Int), (c2 : Int), (c3 : Int)] from O1) 3
            have O1 := owns_set O1 rfl 0 ((c0 : Int) + 1)
            have hN3 := hN3.setCell (p := ⟨w.heap.size, 0, none⟩) (Nat.le_refl _) (.int .i64 ((c0 : Int) + 1))
            have z0 := (cell_lt y0)
            have z1 : ¬ w.heap.size = wr.heap.size := by omega
            clear HO hN hB3
            go_wp2_with (go_at_call 153; refine (NE.out _).mono ?_; rintro e w7 ⟨rfl, hb7⟩; have O3 := O1.below hb7; have k3 := cell_of_owns O3 rfl 3 (c3 : Int) rfl; have f3 := frozen_of_owns (show Owns _ _ (.slice _ (List.length [_, _, _, _]) 4) [_, _, _, _] from O3) 3; have hN7 := bthen hN3 hb7; clear hN3 O1)
            have O3 := owns_set O3 rfl 3 ((c3 : Int) + 1)
            have hN7 := hN7.setCell (p := ⟨w.heap.size, 3, none⟩) (Nat.le_refl _) (.int .i64 ((c3 : Int) + 1))
            go_roundw
            case rel => exact ⟨b + 1, by omega, by go_num, Lib.hid (by rw [HE.out]; exact O3), hN7, Nat.succ_le_of_lt (cell_lt (cell_of_owns O3 rfl 3 _ rfl))⟩
            case measure => simp [intOf]; omega
        · cases br
          · have HE := Lib.hid (show kcL n.toNat R (b + 1) = [(c0 : Int) + 1, (c1 : Int) + 1, (c2 : Int) + 1, (c3 : Int)] by rw [HS.out]; simp [Bool.toNat])
            clear HS
            go_wp2_with (go_at_call 123; refine (AT.out _).mono ?_; rintro e w' ⟨rfl, rfl⟩)
            go_region_held3 (fun w' => (w'.cell? ⟨wr.heap.size, 0, none⟩ = some (.int .i64 n) ∧ w'.cell? ⟨wr.heap.size, 1, none⟩ = some (.int .i64 (b : Int))) ∧ Below (wr.alloc (.cells #[.int .i64 n, .int .i64 (b : Int)] 25)).heap.size (wr.alloc (.cells #[.int .i64 n, .int .i64 (b : Int)] 25)) w') (first | exact ⟨⟨by simp [go_sem], by simp [go_sem]⟩, (Below.refl _ _).drew⟩ | assumption | exact step_heldC hb1 (by assumption))
              (first
                | (go_at_call 148; refine (ID.out _).mono ?_; rintro e w' ⟨rfl, hb1⟩)
                | (go_at_call 150; refine (SY.out _).mono ?_; rintro e w' ⟨rfl, hb1⟩))
            obtain ⟨⟨y0, y1⟩, hB3⟩ := (‹(_ ∧ _) ∧ Below _ _ _›)
            have O1 := (HO.out.below (bnew _ _)).below hB3
            have hN3 := (balloc hN _).trans (hB3.mono (Nat.le_trans hN.size (by simp)))
            have k0 := cell_of_owns O1 rfl 0 (c0 : Int) rfl
            have k1 := cell_of_owns O1 rfl 1 (c1 : Int) rfl
            have k2 := cell_of_owns O1 rfl 2 (c2 : Int) rfl
            have k3 := cell_of_owns O1 rfl 3 (c3 : Int) rfl
            have f0 := frozen_of_owns (show Owns _ _ (.slice _ [(c0 : Int), (c1 : Int), (c2 : Int), (c3 : Int)].length 4) [(c0 : Int), (c1 : Int), (c2 : Int), (c3 : Int)] from O1) 0
            have f1 := frozen_of_owns (show Owns _ _ (.slice _ [(c0 : Int), (c1 : Int), (c2 : Int), (c3 : Int)].length 4) [(c0 : Int), (c1 : Int), (c2 : Int), (c3 : Int)] from O1) 1
            have f2 := frozen_of_owns (show Owns _ _ (.slice _ [(c0 : Int), (c1 : Int), (c2 : Int), (c3 : Int)].length 4) [(c0 : Int), (c1 : Int), (c2 : Int), (c3 : Int)] from O1) 2
            have f3 := frozen_of_owns (show Owns _ _ (.slice _ [(c0 : Int), (c1 : Int), (c2 : Int), (c3 : Int)].length 4) [(c0 : Int), (c1 : Int), (c2 : Int), (c3 : Int)] from O1) 3
            have O1 := owns_set O1 rfl 0 ((c0 : Int) + 1)
            have hN3 := hN3.setCell (p := ⟨w.heap.size, 0, none⟩) (Nat.le_refl _) (.int .i64 ((c0 : Int) + 1))
            have O1 := owns_set O1 rfl 1 ((c1 : Int) + 1)
            have hN3 := hN3.setCell (p := ⟨w.heap.size, 1, none⟩) (Nat.le_refl _) (.int .i64 ((c1 : Int) + 1))
            have O1 := owns_set O1 rfl 2 ((c2 : Int) + 1)
            have hN3 := hN3.setCell (p := ⟨w.heap.size, 2, none⟩) (Nat.le_refl _) (.int .i64 ((c2 : Int) + 1))
            have z0 := (cell_lt y0)
            have z1 : ¬ w.heap.size = wr.heap.size := by omega
            clear HO hN hB3
            go_wp2_with (go_at_call 153; refine (NE.out _).mono ?_; rintro e w7 ⟨rfl, hb7⟩; have O3 := O1.below hb7; have k3 := cell_of_owns O3 rfl 3 (c3 : Int) rfl; have f3 := frozen_of_owns (show Owns _ _ (.slice _ (List.length [_, _, _, _]) 4) [_, _, _, _] from O3) 3; have hN7 := bthen hN3 hb7; clear hN3 O1)
            go_roundw
            case rel => exact ⟨b + 1, by omega, by go_num, Lib.hid (by rw [HE.out]; exact O3), hN7, Nat.succ_le_of_lt (cell_lt (cell_of_owns O3 rfl 3 _ rfl))⟩
            case measure => simp [intOf]; omega
          · have HE := Lib.hid (show kcL n.toNat R (b + 1) = [(c0 : Int) + 1, (c1 : Int) + 1, (c2 : Int) + 1, (c3 : Int) + 1] by rw [HS.out]; simp [Bool.toNat])
            clear HS
            go_wp2_with (go_at_call 123; refine (AT.out _).mono ?_; rintro e w' ⟨rfl, rfl⟩)
            go_region_held3 (fun w' => (w'.cell? ⟨wr.heap.size, 0, none⟩ = some (.int .i64 n) ∧ w'.cell? ⟨wr.heap.size, 1, none⟩ = some (.int .i64 (b : Int))) ∧ Below (wr.alloc (.cells #[.int .i64 n, .int .i64 (b : Int)] 25)).heap.size (wr.alloc (.cells #[.int .i64 n, .int .i64 (b : Int)] 25)) w') (first | exact ⟨⟨by simp [go_sem], by simp [go_sem]⟩, (Below.refl _ _).drew⟩ | assumption | exact step_heldC hb1 (by assumption))
              (first
                | (go_at_call 148; refine (ID.out _).mono ?_; rintro e w' ⟨rfl, hb1⟩)
                | (go_at_call 150; refine (SY.out _).mono ?_; rintro e w' ⟨rfl, hb1⟩))
            obtain ⟨⟨y0, y1⟩, hB3⟩ := (‹(_ ∧ _) ∧ Below _ _ _›)
            have O1 := (HO.out.below (bnew _ _)).below hB3
            have hN3 := (balloc hN _).trans (hB3.mono (Nat.le_trans hN.size (by simp)))
            have k0 := cell_of_owns O1 rfl 0 (c0 : Int) rfl
            have k1 := cell_of_owns O1 rfl 1 (c1 : Int) rfl
            have k2 := cell_of_owns O1 rfl 2 (c2 : Int) rfl
            have k3 := cell_of_owns O1 rfl 3 (c3 : Int) rfl
            have f0 := frozen_of_owns (show Owns _ _ (.slice _ [(c0 : Int), (c1 : Int), (c2 : Int), (c3 : Int)].length 4) [(c0 : Int), (c1 : Int), (c2 : Int), (c3 : Int)] from O1) 0
            have f1 := frozen_of_owns (show Owns _ _ (.slice _ [(c0 : Int), (c1 : Int), (c2 : Int), (c3 : Int)].length 4) [(c0 : Int), (c1 : Int), (c2 : Int), (c3 : Int)] from O1) 1
            have f2 := frozen_of_owns (show Owns _ _ (.slice _ [(c0 : Int), (c1 : Int), (c2 : Int), (c3 : Int)].length 4) [(c0 : Int), (c1 : Int), (c2 : Int), (c3 : Int)] from O1) 2
            have f3 := frozen_of_owns (show Owns _ _ (.slice _ [(c0 : Int), (c1 : Int), (c2 : Int), (c3 : Int)].length 4) [(c0 : Int), (c1 : Int), (c2 : Int), (c3 : Int)] from O1) 3
            have O1 := owns_set O1 rfl 0 ((c0 : Int) + 1)
            have hN3 := hN3.setCell (p := ⟨w.heap.size, 0, none⟩) (Nat.le_refl _) (.int .i64 ((c0 : Int) + 1))
            have O1 := owns_set O1 rfl 1 ((c1 : Int) + 1)
            have hN3 := hN3.setCell (p := ⟨w.heap.size, 1, none⟩) (Nat.le_refl _) (.int .i64 ((c1 : Int) + 1))
            have O1 := owns_set O1 rfl 2 ((c2 : Int) + 1)
            have hN3 := hN3.setCell (p := ⟨w.heap.size, 2, none⟩) (Nat.le_refl _) (.int .i64 ((c2 : Int) + 1))
            have z0 := (cell_lt y0)
            have z1 : ¬ w.heap.size = wr.heap.size := by omega
            clear HO hN hB3
            go_wp2_with (go_at_call 153; refine (NE.out _).mono ?_; rintro e w7 ⟨rfl, hb7⟩; have O3 := O1.below hb7; have k3 := cell_of_owns O3 rfl 3 (c3 : Int) rfl; have f3 := frozen_of_owns (show Owns _ _ (.slice _ (List.length [_, _, _, _]) 4) [_, _, _, _] from O3) 3; have hN7 := bthen hN3 hb7; clear hN3 O1)
            have O3 := owns_set O3 rfl 3 ((c3 : Int) + 1)
            have hN7 := hN7.setCell (p := ⟨w.heap.size, 3, none⟩) (Nat.le_refl _) (.int .i64 ((c3 : Int) + 1))
            go_roundw
            case rel => exact ⟨b + 1, by omega, by go_num, Lib.hid (by rw [HE.out]; exact O3), hN7, Nat.succ_le_of_lt (cell_lt (cell_of_owns O3 rfl 3 _ rfl))⟩
            case measure => simp [intOf]; omega
    · obtain rfl : b = T := by omega
      have O := HO.out
      go_wp2_with (go_at_call 123; refine (AT.out _).mono ?_; rintro e w' ⟨rfl, rfl⟩)
      go_ret2
      exact ⟨_, rfl, O, hN⟩

theorem bothKindCounts (n : Int) (_ : (Lit.int .i64 n).wf = true) : ∃ (xs : List Int) (rc : Int), xs.length ≤ 100000 ∧
    (∀ w, Calls Try.prog 65 #[.int .i64 n] w (ListCodePost w.heap.size xs rc w)) ∧
    (∀ w, Calls Try.prog 64 #[.int .i64 n] w (ListCodePost w.heap.size xs rc w)) := by
  cases h : inB n 0 4
  · exact ⟨_, _, by simp, specKindCounts_no h, implKindCounts_no h⟩
  · have hn2 : 0 ≤ n ∧ n ≤ 4 := by simpa [inB] using h
    obtain ⟨R, T, r0, r16, hR, hT, hT0, hT16, hA, ok⟩ := arity_nums hn2.1 hn2.2
    exact ⟨_, _, by simp [kcL], specKindCounts_yes hn2.1 hn2.2 hT0 hT16 hA ok h, implKindCounts_yes hn2.1 hn2.2 r0 r16 hR hT hT0 hT16 ok h⟩
end Go.Proofs.Ytbdhlokbpbiijaa

/- IM1:
  Mathematics of FnIdentities: how many functions are symmetric. -/
namespace Go.Proofs.Ytbdhlokbpbiijaa
open Go.RowKit
set_option linter.unusedVariables false
set_option linter.unusedSimpArgs false

/-- A count over the 2 ^ k numbers from lo on, by halves. -/
def cntB (p : Nat → Bool) (lo : Nat) : Nat → Nat
  | 0 => (p lo).toNat
  | k + 1 => cntB p lo k + cntB p (lo + 2 ^ k) k
theorem cntB_is (p : Nat → Bool) (k : Nat) : ∀ lo, cntTo p (lo + 2 ^ k) = cntTo p lo + cntB p lo k := by
  induction k with
  | zero => intro lo; rw [Nat.pow_zero, cntTo_succ]; rfl
  | succ k ih =>
    intro lo
    rw [Nat.pow_succ, show lo + 2 ^ k * 2 = (lo + 2 ^ k) + 2 ^ k by omega, ih, ih]
    show _ = cntTo p lo + (cntB p lo k + cntB p (lo + 2 ^ k) k)
    omega
theorem cntB_all (p : Nat → Bool) (k : Nat) : cntTo p (2 ^ k) = cntB p 0 k := by
  have := cntB_is p k 0
  rw [Nat.zero_add] at this
  rw [this]; show 0 + _ = _; omega
set_option maxRecDepth 100000
theorem sym_n0 : cntB (fun x => symB x 1) 0 1 = 2 := by decide +kernel
theorem sym_n1 : cntB (fun x => symB x 2) 0 2 = 4 := by decide +kernel
theorem sym_n2 : cntB (fun x => symB x 4) 0 4 = 8 := by decide +kernel
theorem sym_n3 : cntB (fun x => symB x 8) 0 8 = 16 := by decide +kernel
theorem sym_n4 : cntB (fun x => symB x 16) 0 16 = 32 := by decide +kernel
theorem cntTo_mono {p q : Nat → Bool} (h : ∀ x, p x = true → q x = true) (k : Nat) : cntTo p k ≤ cntTo q k := by
  induction k with
  | zero => exact Nat.le_refl _
  | succ k ih =>
    rw [cntTo_succ, cntTo_succ]
    have : (p k).toNat ≤ (q k).toNat := by
      cases hp : p k
      · exact Nat.zero_le _
      · rw [h k hp]; exact Nat.le_refl _
    omega
/-- **Symmetric functions of m variables: 2 ^ (m + 1).** -/
theorem sym_count {m R T : Nat} (h4 : m ≤ 4) (hR : R = 2 ^ m) (hT : T = 2 ^ R) : cntTo (fun x => symB x R) T = 2 ^ (m + 1) := by
  rw [hT, cntB_all]
  rcases (show m = 0 ∨ m = 1 ∨ m = 2 ∨ m = 3 ∨ m = 4 by omega) with rfl | rfl | rfl | rfl | rfl
  · rw [hR]; exact sym_n0
  · rw [hR]; exact sym_n1
  · rw [hR]; exact sym_n2
  · rw [hR]; exact sym_n3
  · rw [hR]; exact sym_n4
end Go.Proofs.Ytbdhlokbpbiijaa
