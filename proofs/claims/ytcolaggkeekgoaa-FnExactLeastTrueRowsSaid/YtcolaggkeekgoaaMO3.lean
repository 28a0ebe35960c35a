/-
  Chapter 7 of the model: l07Ends.
-/
import Derived.Test.YtcolaggkeekgoaaMO2
namespace Go.Proofs.Ytcolaggkeekgoaa
open Go.RowKit
set_option linter.unusedVariables false
set_option linter.unusedSimpArgs false

set_option maxRecDepth 100000 in
set_option maxHeartbeats 8000000 in
theorem l07Ends_least {n : Int} {x R : Nat} (ok : FOk n x R) (v : Nat) (hv : v ≤ 1) (w : World) :
    Calls Try.prog 58 #[.agg #[.int .i64 n, .int .i64 (x : Int)], .int .i64 (v : Int), .bool true] w (ListPost w.heap.size (nL (endsL x R v true R)) w) := by
  obtain ⟨i0, hi, hz0, hz1, hz2⟩ := info_parts infoI
  have r16 := ok.r16
  have RWS := Lib.hid (fun W => l01Rows_is ok.h0 ok.h4 ok.hR W)
  have HAT := Lib.hid (fun (i : Nat) (hi : i < R) W => l01At_any n x i ok.hx (by omega) W)
  have HHA := Lib.hid (fun (i j : Nat) (hi : i < R) (hj : j < R) W => l03Has_is (x := inR i j) (by omega) (by omega) rfl W)
  obtain ⟨W1, hW1⟩ : ∃ W1, w.alloc (.cells #[.int .i64 n, .int .i64 (x : Int)] 24) = W1 := ⟨_, rfl⟩
  have p0 : W1.cell? ⟨w.heap.size, 0, none⟩ = some (.int .i64 n) := by rw [← hW1]; simp [go_sem]
  have p1 : W1.cell? ⟨w.heap.size, 1, none⟩ = some (.int .i64 (x : Int)) := by rw [← hW1]; simp [go_sem]
  have hB : Below w.heap.size w W1 := by rw [← hW1]; exact bnew _ _
  have l0 : w.heap.size < W1.heap.size := cell_lt p0
  clear ok
  go_enter Try.func58, Try.ntmps58
  go_wp2_with (go_at_call 48; refine (RWS.out _).mono ?_; rintro e w' ⟨rfl, rfl⟩)
  clear hW1
  go_loopw [7, 9] (fun s i' wr => ∃ r : Nat, r ≤ R ∧ i' = .int .i64 r ∧ Owns wr W1.heap.size s (nL (endsL x R v true r)) ∧ Below W1.heap.size W1 wr)
    (fun _ i' _ => R - (intOf i').toNat)
  case atStart => exact ⟨0, Nat.zero_le _, rfl, World.ownsRow_lit W1 #[] 0 (Nat.le_refl _) (by decide) rfl, bnew _ _⟩
  case round =>
    obtain ⟨r, hr, rfl, hown, hN⟩ := hrel
    by_cases hlt : r < R
    · have q0 := kc hN p0
      have q1 := kc hN p1
      have AT := Lib.hid (HAT.out r hlt)
      have HE0 : Hid (((bitN x r : Int) == (v : Int)) = endTo x v r true 0) := Lib.hid (by rw [beq_cast]; simp [endTo, allLt])
      go_wp2_with (go_at_call 49; refine (AT.out _).mono ?_; rintro e w2 ⟨rfl, hb2⟩)
      rw [HE0.out]
      have m0 := kc hb2 q0
      have m1 := kc hb2 q1
      have hN2 := bthen hN hb2
      have hown2 := hown.below hb2
      clear q0 q1 hown hN hb2
      go_wp2
      go_loopw [10, 11] (fun e' w' wr2 => ∃ k : Nat, k ≤ R ∧ w' = .int .i64 k ∧ e' = .bool (endTo x v r true k) ∧ (wr2.cell? ⟨w.heap.size, 0, none⟩ = some (.int .i64 n) ∧ wr2.cell? ⟨w.heap.size, 1, none⟩ = some (.int .i64 (x : Int))) ∧ (Hid (Owns wr2 W1.heap.size u7 (nL (endsL x R v true r))) ∧ Below W1.heap.size W1 wr2))
        (fun _ w' _ => R - (intOf w').toNat)
      case atStart => exact ⟨0, Nat.zero_le _, rfl, rfl, ⟨m0, m1⟩, Lib.hid hown2, hN2⟩
      case round =>
        clear m0 m1 hown2 hN2 AT HE0
        obtain ⟨k, hk, rfl, rfl, ⟨m0, m1⟩, HO, hN⟩ := hrel
        have hsz := hN.size
        by_cases hltk : k < R
        · have EF := Lib.hid (fun (h : endTo x v r true k = false) => endsL_no (endTo_false hk h))
          have ES := Lib.hid (endTo_succ x v r true k)
          generalize endTo x v r true k = ek at EF ES ⊢
          have AT := Lib.hid (HAT.out k hltk)
          cases ek
          · have HS := Lib.hid (EF.out rfl)
            clear EF ES AT
            go_wp2
            go_roundw
            case rel => exact ⟨r + 1, by omega, by go_num, by rw [HS.out]; exact HO.out, hN⟩
            case measure => simp [intOf]; omega
          · clear EF
            by_cases hkr : k = r
            · have hkr2 : ((k : Int) == (r : Int)) = true := by simp [hkr]
              have HE := Lib.hid (show endTo x v r true (k + 1) = true by rw [ES.out]; simp [okV, hkr])
              clear ES hkr
              go_wp2_with (go_at_call 92; with_reducible refine (HHA.out _ _ (by assumption) (by assumption) _).mono ?_; rintro e w' ⟨rfl, rfl⟩)
              go_roundw
              case rel => exact ⟨k + 1, by omega, by go_num, by rw [HE.out], ⟨m0, m1⟩, HO, hN⟩
              case measure => simp [intOf]; omega
            · have hkr2 : ((k : Int) == (r : Int)) = false := by simp; omega
              have hkr3 : (k == r) = false := by simpa using hkr
              by_cases hbv : bitN x k = v
              · have hne : ((bitN x k : Int) != (v : Int)) = false := by simp [hbv]
                cases hx : inR r k
                all_goals
                  have HX := Lib.hid hx
                  have HE := Lib.hid (show endTo x v r true (k + 1) = !(inR r k) by rw [ES.out, okV, hkr3, hbv]; simp)
                  clear ES hkr hkr3 hbv hx
                  go_wp2_with (first
                    | (go_at_call 92; with_reducible refine (HHA.out _ _ (by assumption) (by assumption) _).mono ?_; rintro e w' ⟨rfl, rfl⟩; try rw [HX.out])
                    | (go_at_call 49; refine (AT.out _).mono ?_; rintro e w2 ⟨rfl, hb2⟩))
                  go_roundw
                  case rel => exact ⟨k + 1, by omega, by go_num, by rw [HE.out, HX.out]; first | rfl | trivial, ⟨kc hb2 m0, kc hb2 m1⟩, Lib.hid (HO.out.below hb2), bthen hN hb2⟩
                  case measure => simp [intOf]; omega
              · have hne : ((bitN x k : Int) != (v : Int)) = true := by simp; omega
                have hbv2 : (bitN x k != v) = true := by simpa using hbv
                have HE := Lib.hid (show endTo x v r true (k + 1) = true by rw [ES.out, okV, hkr3, hbv2]; rfl)
                clear ES hkr hkr3 hbv hbv2
                go_wp2_with (first
                  | (go_at_call 92; with_reducible refine (HHA.out _ _ (by assumption) (by assumption) _).mono ?_; rintro e w' ⟨rfl, rfl⟩)
                  | (go_at_call 49; refine (AT.out _).mono ?_; rintro e w2 ⟨rfl, hb2⟩))
                go_roundw
                case rel => exact ⟨k + 1, by omega, by go_num, by rw [HE.out], ⟨kc hb2 m0, kc hb2 m1⟩, Lib.hid (HO.out.below hb2), bthen hN hb2⟩
                case measure => simp [intOf]; omega
        · obtain rfl : k = R := by omega
          rw [endTo_all x k v r true]
          cases he : endV x k v true r
          · have HS := Lib.hid (endsL_no he)
            clear he
            go_wp2
            go_roundw
            case rel => exact ⟨r + 1, by omega, by go_num, by rw [HS.out]; exact HO.out, hN⟩
            case measure => simp [intOf]; omega
          · have HS := Lib.hid (endsL_yes he)
            clear he
            have hle : (nL (endsL x k v true r)).length ≤ r := by rw [nL_length]; exact endsL_len x k v true r
            have hown : World.ownsRow _ _ _ _ _ _ _ := HO.out
            go_wp2_with (at_builtin; refine wpList_append_own _ rfl _ _ 33 rfl W1.heap.size 2 i0 (.int .i64 0) 1 8 Try.underlying33 hi hz0 hz1 hz2 rfl (by decide) _ _ _ rfl (hown.alloc _) ⟨wr.heap.size, 0, none⟩ 1 1 [.int .i64 (r : Int)] rfl rfl (cell_one_new _ _ _) (one_cell_int _) (by unfold maxLen; omega) (by omega) (by simp; omega) ?_)
            intro v' w1 hown' hgrow _
            have hN' := (balloc hN (.cells #[.int .i64 (r : Int)] 2)).grown hgrow (by simp; omega) (fun j e => (World.ownsRow.lt hown j e).1)
            clear hgrow hown hN HO
            go_wp2
            go_roundw
            case rel => exact ⟨r + 1, by omega, by go_num, by rw [HS.out, nL_snoc]; unfold Owns; rw [ints_snoc, List.length_append]; exact hown', hN'⟩
            case measure => simp [intOf]; omega
    · obtain rfl : r = R := by omega
      have ho := Lib.hid (hown.mono hB.size)
      have hBN := bthen hB hN
      clear hown hN
      go_wp2
      go_ret
      exact ⟨_, rfl, ho.out, hBN⟩

set_option maxRecDepth 100000 in
set_option maxHeartbeats 8000000 in
theorem l07Ends_greatest {n : Int} {x R : Nat} (ok : FOk n x R) (v : Nat) (hv : v ≤ 1) (w : World) :
    Calls Try.prog 58 #[.agg #[.int .i64 n, .int .i64 (x : Int)], .int .i64 (v : Int), .bool false] w (ListPost w.heap.size (nL (endsL x R v false R)) w) := by
  obtain ⟨i0, hi, hz0, hz1, hz2⟩ := info_parts infoI
  have r16 := ok.r16
  have RWS := Lib.hid (fun W => l01Rows_is ok.h0 ok.h4 ok.hR W)
  have HAT := Lib.hid (fun (i : Nat) (hi : i < R) W => l01At_any n x i ok.hx (by omega) W)
  have HHA := Lib.hid (fun (i j : Nat) (hi : i < R) (hj : j < R) W => l03Has_is (x := inR i j) (by omega) (by omega) rfl W)
  obtain ⟨W1, hW1⟩ : ∃ W1, w.alloc (.cells #[.int .i64 n, .int .i64 (x : Int)] 24) = W1 := ⟨_, rfl⟩
  have p0 : W1.cell? ⟨w.heap.size, 0, none⟩ = some (.int .i64 n) := by rw [← hW1]; simp [go_sem]
  have p1 : W1.cell? ⟨w.heap.size, 1, none⟩ = some (.int .i64 (x : Int)) := by rw [← hW1]; simp [go_sem]
  have hB : Below w.heap.size w W1 := by rw [← hW1]; exact bnew _ _
  have l0 : w.heap.size < W1.heap.size := cell_lt p0
  clear ok
  go_enter Try.func58, Try.ntmps58
  go_wp2_with (go_at_call 48; refine (RWS.out _).mono ?_; rintro e w' ⟨rfl, rfl⟩)
  clear hW1
  go_loopw [7, 9] (fun s i' wr => ∃ r : Nat, r ≤ R ∧ i' = .int .i64 r ∧ Owns wr W1.heap.size s (nL (endsL x R v false r)) ∧ Below W1.heap.size W1 wr)
    (fun _ i' _ => R - (intOf i').toNat)
  case atStart => exact ⟨0, Nat.zero_le _, rfl, World.ownsRow_lit W1 #[] 0 (Nat.le_refl _) (by decide) rfl, bnew _ _⟩
  case round =>
    obtain ⟨r, hr, rfl, hown, hN⟩ := hrel
    by_cases hlt : r < R
    · have q0 := kc hN p0
      have q1 := kc hN p1
      have AT := Lib.hid (HAT.out r hlt)
      have HE0 : Hid (((bitN x r : Int) == (v : Int)) = endTo x v r false 0) := Lib.hid (by rw [beq_cast]; simp [endTo, allLt])
      go_wp2_with (go_at_call 49; refine (AT.out _).mono ?_; rintro e w2 ⟨rfl, hb2⟩)
      rw [HE0.out]
      have m0 := kc hb2 q0
      have m1 := kc hb2 q1
      have hN2 := bthen hN hb2
      have hown2 := hown.below hb2
      clear q0 q1 hown hN hb2
      go_wp2
      go_loopw [10, 11] (fun e' w' wr2 => ∃ k : Nat, k ≤ R ∧ w' = .int .i64 k ∧ e' = .bool (endTo x v r false k) ∧ (wr2.cell? ⟨w.heap.size, 0, none⟩ = some (.int .i64 n) ∧ wr2.cell? ⟨w.heap.size, 1, none⟩ = some (.int .i64 (x : Int))) ∧ (Hid (Owns wr2 W1.heap.size u7 (nL (endsL x R v false r))) ∧ Below W1.heap.size W1 wr2))
        (fun _ w' _ => R - (intOf w').toNat)
      case atStart => exact ⟨0, Nat.zero_le _, rfl, rfl, ⟨m0, m1⟩, Lib.hid hown2, hN2⟩
      case round =>
        clear m0 m1 hown2 hN2 AT HE0
        obtain ⟨k, hk, rfl, rfl, ⟨m0, m1⟩, HO, hN⟩ := hrel
        have hsz := hN.size
        by_cases hltk : k < R
        · have EF := Lib.hid (fun (h : endTo x v r false k = false) => endsL_no (endTo_false hk h))
          have ES := Lib.hid (endTo_succ x v r false k)
          generalize endTo x v r false k = ek at EF ES ⊢
          have AT := Lib.hid (HAT.out k hltk)
          cases ek
          · have HS := Lib.hid (EF.out rfl)
            clear EF ES AT
            go_wp2
            go_roundw
            case rel => exact ⟨r + 1, by omega, by go_num, by rw [HS.out]; exact HO.out, hN⟩
            case measure => simp [intOf]; omega
          · clear EF
            by_cases hkr : k = r
            · have hkr2 : ((k : Int) == (r : Int)) = true := by simp [hkr]
              have HE := Lib.hid (show endTo x v r false (k + 1) = true by rw [ES.out]; simp [okV, hkr])
              clear ES hkr
              go_wp2_with (go_at_call 92; with_reducible refine (HHA.out _ _ (by assumption) (by assumption) _).mono ?_; rintro e w' ⟨rfl, rfl⟩)
              go_roundw
              case rel => exact ⟨k + 1, by omega, by go_num, by rw [HE.out], ⟨m0, m1⟩, HO, hN⟩
              case measure => simp [intOf]; omega
            · have hkr2 : ((k : Int) == (r : Int)) = false := by simp; omega
              have hkr3 : (k == r) = false := by simpa using hkr
              by_cases hbv : bitN x k = v
              · have hne : ((bitN x k : Int) != (v : Int)) = false := by simp [hbv]
                cases hx : inR k r
                all_goals
                  have HX := Lib.hid hx
                  have HE := Lib.hid (show endTo x v r false (k + 1) = !(inR k r) by rw [ES.out, okV, hkr3, hbv]; simp)
                  clear ES hkr hkr3 hbv hx
                  go_wp2_with (first
                    | (go_at_call 92; with_reducible refine (HHA.out _ _ (by assumption) (by assumption) _).mono ?_; rintro e w' ⟨rfl, rfl⟩; try rw [HX.out])
                    | (go_at_call 49; refine (AT.out _).mono ?_; rintro e w2 ⟨rfl, hb2⟩))
                  go_roundw
                  case rel => exact ⟨k + 1, by omega, by go_num, by rw [HE.out, HX.out]; first | rfl | trivial, ⟨kc hb2 m0, kc hb2 m1⟩, Lib.hid (HO.out.below hb2), bthen hN hb2⟩
                  case measure => simp [intOf]; omega
              · have hne : ((bitN x k : Int) != (v : Int)) = true := by simp; omega
                have hbv2 : (bitN x k != v) = true := by simpa using hbv
                have HE := Lib.hid (show endTo x v r false (k + 1) = true by rw [ES.out, okV, hkr3, hbv2]; rfl)
                clear ES hkr hkr3 hbv hbv2
                go_wp2_with (first
                  | (go_at_call 92; with_reducible refine (HHA.out _ _ (by assumption) (by assumption) _).mono ?_; rintro e w' ⟨rfl, rfl⟩)
                  | (go_at_call 49; refine (AT.out _).mono ?_; rintro e w2 ⟨rfl, hb2⟩))
                go_roundw
                case rel => exact ⟨k + 1, by omega, by go_num, by rw [HE.out], ⟨kc hb2 m0, kc hb2 m1⟩, Lib.hid (HO.out.below hb2), bthen hN hb2⟩
                case measure => simp [intOf]; omega
        · obtain rfl : k = R := by omega
          rw [endTo_all x k v r false]
          cases he : endV x k v false r
          · have HS := Lib.hid (endsL_no he)
            clear he
            go_wp2
            go_roundw
            case rel => exact ⟨r + 1, by omega, by go_num, by rw [HS.out]; exact HO.out, hN⟩
            case measure => simp [intOf]; omega
          · have HS := Lib.hid (endsL_yes he)
            clear he
            have hle : (nL (endsL x k v false r)).length ≤ r := by rw [nL_length]; exact endsL_len x k v false r
            have hown : World.ownsRow _ _ _ _ _ _ _ := HO.out
            go_wp2_with (at_builtin; refine wpList_append_own _ rfl _ _ 33 rfl W1.heap.size 2 i0 (.int .i64 0) 1 8 Try.underlying33 hi hz0 hz1 hz2 rfl (by decide) _ _ _ rfl (hown.alloc _) ⟨wr.heap.size, 0, none⟩ 1 1 [.int .i64 (r : Int)] rfl rfl (cell_one_new _ _ _) (one_cell_int _) (by unfold maxLen; omega) (by omega) (by simp; omega) ?_)
            intro v' w1 hown' hgrow _
            have hN' := (balloc hN (.cells #[.int .i64 (r : Int)] 2)).grown hgrow (by simp; omega) (fun j e => (World.ownsRow.lt hown j e).1)
            clear hgrow hown hN HO
            go_wp2
            go_roundw
            case rel => exact ⟨r + 1, by omega, by go_num, by rw [HS.out, nL_snoc]; unfold Owns; rw [ints_snoc, List.length_append]; exact hown', hN'⟩
            case measure => simp [intOf]; omega
    · obtain rfl : r = R := by omega
      have ho := Lib.hid (hown.mono hB.size)
      have hBN := bthen hB hN
      clear hown hN
      go_wp2
      go_ret
      exact ⟨_, rfl, ho.out, hBN⟩

end Go.Proofs.Ytcolaggkeekgoaa
