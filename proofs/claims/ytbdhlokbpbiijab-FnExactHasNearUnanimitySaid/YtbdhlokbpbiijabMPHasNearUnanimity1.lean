/-
  The texts ID4, ID5, ID6, FHasNearUnanimity in one.
-/
import Derived.Test.YtbdhlokbpbiijabMPIsIdempotent4
import Derived.Lib.BufferMore

/- ID4:
  Values that are the first of two arguments: isFirstOfTwo of the program. -/
namespace Go.Proofs.Ytbdhlokbpbiijab
open Go.RowKit Go.Shelf
set_option linter.unusedVariables false
set_option linter.unusedSimpArgs false

/-- The set s is 1 at arguments that do not tell: the value is that of the others. -/
def fotS (x R s : Nat) : Bool := bitN x s == 0 && bitN x (R - 1 - s) == 1
def fotT (x R : Nat) (l : List Nat) (k : Nat) : Bool := (l.take k).all (fotS x R)
def fotL (x R : Nat) (l : List Nat) : Bool := l.all (fotS x R)
theorem fotT_succ {x R : Nat} {l : List Nat} {k : Nat} (hk : k < l.length) : fotT x R l (k + 1) = (fotT x R l k && fotS x R (l[k]?.getD 0)) := by
  unfold fotT
  rw [List.take_succ_eq_append_getElem hk, List.all_append, List.getElem?_eq_getElem hk]
  simp
theorem fotT_all (x R : Nat) (l : List Nat) : fotT x R l l.length = fotL x R l := by unfold fotT fotL; rw [List.take_length]
theorem fotL_no {x R : Nat} {l : List Nat} {k : Nat} (hk : k < l.length) (h : fotS x R (l[k]?.getD 0) = false) : fotL x R l = false := by
  cases hc : fotL x R l
  · rfl
  · have := List.all_eq_true.1 hc _ (List.getElem_mem hk)
    rw [List.getElem?_eq_getElem hk] at h
    rw [← h]; exact this.symm

set_option maxRecDepth 100000 in
set_option maxHeartbeats 2000000 in
theorem isFirstOfTwo_any {n : Int} {x R : Nat} (ok : FOk n x R) {base : Nat} {s : Value} {l : List Nat} (hl : l.length ≤ 1048576) (hm : ∀ o ∈ l, o < R) (w : World) (h : Owns w base s (nL l)) :
    Calls Try.prog 105 #[.agg #[.int .i64 n, .int .i64 (x : Int)], s] w fun e w' => e = .returned (.bool (fotL x R l && idB x R)) ∧ Below w.heap.size w w' := by
  have r0 := ok.r0
  have r16 := ok.r16
  have ID := Lib.hid (fun W => isIdempotent_any ok W)
  generalize idB x R = ib at ID ⊢
  have hc : ∃ (a : Option Addr) (cap : Nat), s = .slice a l.length cap ∧ Hid (∀ j, j < l.length → ∃ g, a = some ⟨g, 0, none⟩ ∧ w.cell? ⟨g, j, none⟩ = some (.int .i64 (l[j]?.getD 0 : Nat))) := by
    rcases h.shape with ⟨he, a, cap, rfl⟩ | ⟨hn, g, cap, rfl, hbg, hg, hc, hf⟩
    · have e0 : l = [] := by cases l with
        | nil => rfl
        | cons a l => cases he
      subst e0
      exact ⟨_, _, rfl, Lib.hid fun j hj => absurd hj (Nat.not_lt_zero _)⟩
    · rw [nL_length] at hc
      exact ⟨_, _, by rw [nL_length], Lib.hid fun j hj => ⟨g, rfl, (hc.out j hj).trans (by rw [nL_get l j hj])⟩⟩
  obtain ⟨a, cap, rfl, HC⟩ := hc
  clear h
  have hG := Lib.hid (fun j (hj : j < l.length) => (show l[j]?.getD 0 < R by rw [List.getElem?_eq_getElem hj]; exact hm _ (List.getElem_mem hj)))
  have hS := Lib.hid (fun k (hk : k < l.length) => fotT_succ (x := x) (R := R) hk)
  have hT := Lib.hid (fun k (hk : k < l.length) => fotL_no (x := x) (R := R) hk)
  have hA := Lib.hid (fotT_all x R l)
  clear hm
  generalize l.length = m at hl HC hG hS hT hA ⊢
  generalize fotL x R l = B at hT hA ⊢
  have LR := Lib.hid (fun W => lastRow_is ok.h0 ok.h4 ok.r0 ok.r16 ok.hR W)
  obtain ⟨W1, hW1⟩ : ∃ W1, w.alloc (.cells #[.int .i64 n, .int .i64 (x : Int)] 43) = W1 := ⟨_, rfl⟩
  have p0 : W1.cell? ⟨w.heap.size, 0, none⟩ = some (.int .i64 n) := by rw [← hW1]; simp [go_sem]
  have p1 : W1.cell? ⟨w.heap.size, 1, none⟩ = some (.int .i64 (x : Int)) := by rw [← hW1]; simp [go_sem]
  have hB : Below w.heap.size w W1 := by rw [← hW1]; exact bnew _ _
  go_enter Try.func105, Try.ntmps105
  go_wp2
  clear hW1
  go_loopw [10] (fun i' wr => ∃ i : Nat, i ≤ m ∧ i' = .int .i64 i ∧ Hid (fotT x R l i = true) ∧ ((wr.cell? ⟨w.heap.size, 0, none⟩ = some (.int .i64 n) ∧ wr.cell? ⟨w.heap.size, 1, none⟩ = some (.int .i64 (x : Int))) ∧ Below w.heap.size w wr)) (fun i' _ => m - (intOf i').toNat)
  case atStart => exact ⟨0, Nat.zero_le _, rfl, Lib.hid rfl, ⟨p0, p1⟩, hB⟩
  case round =>
    clear p0 p1 hB
    obtain ⟨i, hi, rfl, HI, ⟨p0, p1⟩, hB⟩ := hrel
    by_cases hlt : i < m
    · obtain ⟨g, rfl, hc0⟩ := HC.out i hlt
      have hu := kc hB hc0
      have ho := hG.out i hlt
      have HS := Lib.hid (hS.out i hlt)
      have HT := Lib.hid (hT.out i hlt)
      clear hc0
      generalize l[i]?.getD 0 = o at hu ho HS HT
      have hw : IntKind.i64.wrap ((R : Int) - 1 - (o : Int)) = ((R - 1 - o : Nat) : Int) := by rw [show (R : Int) - 1 - (o : Int) = ((R - 1 - o : Nat) : Int) by omega]; exact wrap64_small (by omega) (by omega)
      have V1 := Lib.hid (fun W => valueInRow_any n x o ok.hx (by omega) W)
      have V2 := Lib.hid (fun W => valueInRow_any n x (R - 1 - o) ok.hx (by omega) W)
      have b1 := bitN_le x o
      have b2 := bitN_le x (R - 1 - o)
      unfold fotS at HS HT
      generalize bitN x (R - 1 - o) = v2 at V2 HS HT b2
      generalize bitN x o = v1 at V1 HS HT b1
      generalize R - 1 - o = o2 at V2 hw
      rcases (show v1 = 1 ∨ (v1 = 0 ∧ v2 = 0) ∨ (v1 = 0 ∧ v2 = 1) by omega) with rfl | ⟨rfl, rfl⟩ | ⟨rfl, rfl⟩
      · have HF := Lib.hid (HT.out rfl)
        clear HS HT
        go_wp2_with (first
          | (go_at_call 121; refine (LR.out _).mono ?_; rintro e w' ⟨rfl, rfl⟩)
          | (go_at_call 120; with_reducible refine (V1.out _).mono ?_; rintro e w2 ⟨rfl, hb2⟩))
        go_ret
        exact ⟨by rw [HF.out]; rfl, bthen hB hb2⟩
      · have HF := Lib.hid (HT.out rfl)
        clear HS HT
        go_wp2_with (go_at_call 121; refine (LR.out _).mono ?_; rintro e w' ⟨rfl, rfl⟩)
        refine (V1.out _).mono ?_
        rintro e w2 ⟨rfl, hb2⟩
        have q0 := kc hb2 p0
        have q1 := kc hb2 p1
        have hB2 := bthen hB hb2
        clear p0 p1 hB hu
        go_wp2_with fail
        refine (V2.out _).mono ?_
        rintro e w3 ⟨rfl, hb3⟩
        go_wp2
        go_ret
        exact ⟨by rw [HF.out]; rfl, bthen hB2 hb3⟩
      · have HN := Lib.hid (show fotT x R l (i + 1) = true by rw [HS.out, HI.out]; rfl)
        clear HS HT
        go_wp2_with (go_at_call 121; refine (LR.out _).mono ?_; rintro e w' ⟨rfl, rfl⟩)
        refine (V1.out _).mono ?_
        rintro e w2 ⟨rfl, hb2⟩
        have q0 := kc hb2 p0
        have q1 := kc hb2 p1
        have hB2 := bthen hB hb2
        clear p0 p1 hB hu
        go_wp2_with fail
        refine (V2.out _).mono ?_
        rintro e w3 ⟨rfl, hb3⟩
        have y0 := kc hb3 q0
        have y1 := kc hb3 q1
        have hB3 := bthen hB2 hb3
        clear q0 q1 hB2
        go_wp2
        go_roundw
        case rel => exact ⟨i + 1, by omega, by go_num, HN, ⟨y0, y1⟩, hB3⟩
        case measure => simp [intOf]; omega
    · obtain rfl : i = m := by omega
      have HE := Lib.hid (hA.out.symm.trans HI.out)
      go_wp2_with (go_at_call 64; refine (ID.out _).mono ?_; rintro e w2 ⟨rfl, hb2⟩)
      go_ret
      exact ⟨by rw [HE.out]; rfl, bthen hB hb2⟩
end Go.Proofs.Ytbdhlokbpbiijab

/- ID5:
  Near unanimity of the program: hasNearUnanimity. -/
namespace Go.Proofs.Ytbdhlokbpbiijab
open Go.RowKit Go.Shelf
set_option linter.unusedVariables false
set_option linter.unusedSimpArgs false

/-- The sets of one argument. -/
def pws (n : Nat) : List Nat := (List.range n).map fun i => 2 ^ i
theorem pws_len (n : Nat) : (pws n).length = n := by simp [pws]
theorem pws_succ (n : Nat) : nL (pws (n + 1)) = nL (pws n) ++ [((2 ^ n : Nat) : Int)] := by
  rw [← nL_snoc]; unfold pws; rw [List.range_succ, List.map_append]; rfl
theorem pws_lt {n o : Nat} (h : o ∈ pws n) : o < 2 ^ n := by
  simp only [pws, List.mem_map, List.mem_range] at h
  obtain ⟨i, hi, rfl⟩ := h
  exact Nat.pow_lt_pow_right (by decide) hi
def nearB (n x R : Nat) : Bool := decide (3 ≤ n) && (fotL x R (pws n) && idB x R)

set_option maxRecDepth 100000 in
set_option maxHeartbeats 2000000 in
theorem hasNearUnanimity_any {n : Int} {x R : Nat} (ok : FOk n x R) (w : World) :
    Calls Try.prog 74 #[.agg #[.int .i64 n, .int .i64 (x : Int)]] w fun e w' => e = .returned (.bool (nearB n.toNat x R)) ∧ Below w.heap.size w w' := by
  obtain ⟨i0, hi, hz0, hz1, hz2⟩ := info_parts infoI
  obtain ⟨m, rfl⟩ : ∃ m : Nat, n = (m : Int) := Int.eq_ofNat_of_zero_le ok.h0
  have m4 : m ≤ 4 := by have := ok.h4; omega
  have hmn : ((m : Int)).toNat = m := by omega
  have he : R = 2 ^ m := by have := ok.he; rwa [hmn] at this
  rw [hmn]
  have FT := Lib.hid (fun W base s (h : Owns W base s (nL (pws m))) => isFirstOfTwo_any ok (by rw [pws_len]; omega) (fun o ho => by rw [he]; exact pws_lt ho) W h)
  clear he hmn
  unfold nearB
  generalize (fotL x R (pws m) && idB x R) = fb at FT ⊢
  obtain ⟨W1, hW1⟩ : ∃ W1, w.alloc (.cells #[.int .i64 (m : Int), .int .i64 (x : Int)] 43) = W1 := ⟨_, rfl⟩
  have p0 : W1.cell? ⟨w.heap.size, 0, none⟩ = some (.int .i64 (m : Int)) := by rw [← hW1]; simp [go_sem]
  have p1 : W1.cell? ⟨w.heap.size, 1, none⟩ = some (.int .i64 (x : Int)) := by rw [← hW1]; simp [go_sem]
  have hB : Below w.heap.size w W1 := by rw [← hW1]; exact bnew _ _
  go_enter Try.func74, Try.ntmps74
  go_wp2
  clear hW1
  go_loopw [3, 7] (fun s i' wr => ∃ k : Nat, k ≤ m ∧ i' = .int .i64 k ∧ Hid (Owns wr W1.heap.size s (nL (pws k))) ∧ Below W1.heap.size W1 wr) (fun _ i' _ => m - (intOf i').toNat)
  case atStart => exact ⟨0, Nat.zero_le _, rfl, Lib.hid (Owns.nil _ _), Below.refl _ _⟩
  case round =>
    obtain ⟨k, hk, rfl, HOWN, hN⟩ := hrel
    have hsz := hN.size
    have q0 := kc hN p0
    have q1 := kc hN p1
    by_cases hlt : k < m
    · have hv := shl_one k (by omega)
      have HS := Lib.hid (pws_succ k)
      have hlen : (nL (pws k)).length = k := by rw [nL_length, pws_len]
      have hown := HOWN.out
      unfold Owns at hown
      rw [hlen] at hown
      clear hlen
      generalize (2 : Nat) ^ k = q at hv HS
      go_wp2_with (at_builtin; refine wpList_append_own _ rfl _ _ 25 rfl W1.heap.size 2 i0 (.int .i64 0) 1 8 Try.underlying25 hi hz0 hz1 hz2 rfl (by decide) _ _ _ rfl (hown.alloc _) ⟨wr.heap.size, 0, none⟩ 1 1 [.int .i64 (q : Int)] rfl rfl (cell_one_new _ _ _) (one_cell_int _) (by unfold maxLen; omega) (by omega) (by simp; omega) ?_)
      intro v' w1 hown' hgrow _
      have hN' := (balloc hN (.cells #[.int .i64 (q : Int)] 2)).grown hgrow (by simp; omega) (fun j e => (World.ownsRow.lt hown j e).1)
      clear hgrow hown hN
      go_wp2
      go_roundw
      case rel => exact ⟨k + 1, by omega, by go_num, Lib.hid (by rw [HS.out]; unfold Owns; rw [ints_snoc, List.length_append, nL_length, pws_len]; exact hown'), hN'⟩
      case measure => simp [intOf]; omega
    · obtain rfl : k = m := by omega
      have hBN := bthen hB hN
      by_cases h3 : 3 ≤ k
      · have hd : decide ((3 : Int) ≤ (k : Int)) = true := decide_eq_true (by omega)
        have hd2 : decide (3 ≤ k) = true := decide_eq_true h3
        have F2 := Lib.hid (FT.out wr _ _ HOWN.out)
        go_wp2_with (go_at_call 105; refine (F2.out).mono ?_; rintro e w2 ⟨rfl, hb2⟩)
        go_ret
        exact ⟨by first | rfl | simp [hd2], bthen hBN hb2⟩
      · have hd : decide ((3 : Int) ≤ (k : Int)) = false := decide_eq_false (by omega)
        have hd2 : decide (3 ≤ k) = false := decide_eq_false h3
        go_wp2
        go_ret
        exact ⟨by first | rfl | simp [hd2], hBN⟩
end Go.Proofs.Ytbdhlokbpbiijab

/- ID6:
  Near unanimity of the model, and HasNearUnanimity in both packages. -/
namespace Go.Proofs.Ytbdhlokbpbiijab
open Go.RowKit Go.Shelf
set_option linter.unusedVariables false
set_option linter.unusedSimpArgs false

/-- The row r does not show that a function has no near unanimity. -/
def nearP (n x r : Nat) : Bool := !(decide (sizeN r ≤ 1) && bitN x r == 1 || decide (n - 1 ≤ sizeN r) && bitN x r == 0)
def nearR (n x j : Nat) : Bool := allLt j fun r => nearP n x r
theorem nearR_succ (n x j : Nat) : nearR n x (j + 1) = (nearR n x j && nearP n x j) := allLt_succ _ _
theorem nearR_false {n x r R : Nat} (hr : r < R) (h : nearP n x r = false) : nearR n x R = false := by
  cases hc : nearR n x R
  · rfl
  · have := allLt_iff.1 hc r hr
    rw [h] at this
    cases this
theorem near_three (x : Nat) : nearB 3 x 8 = nearR 3 x 8 := by
  rw [Bool.eq_iff_iff]
  unfold nearR nearP
  have s : ∀ r, r < 8 → sizeN r = [0, 1, 1, 2, 1, 2, 2, 3][r]?.getD 0 := by decide
  have e : nearB 3 x 8 = (fotL x 8 [1, 2, 4] && idB x 8) := rfl
  rw [e]
  have L : List.range 8 = [0, 1, 2, 3, 4, 5, 6, 7] := rfl
  have b := fun r => bitN_le x r
  have b0 := b 0; have b1 := b 1; have b2 := b 2; have b3 := b 3; have b4 := b 4; have b5 := b 5; have b6 := b 6; have b7 := b 7
  simp [allLt, L, s, fotL, fotS, idB, cls0, cls1]
  omega
theorem near_four (x : Nat) : nearB 4 x 16 = nearR 4 x 16 := by
  rw [Bool.eq_iff_iff]
  unfold nearR nearP
  have s : ∀ r, r < 16 → sizeN r = [0, 1, 1, 2, 1, 2, 2, 3, 1, 2, 2, 3, 2, 3, 3, 4][r]?.getD 0 := by decide
  have e : nearB 4 x 16 = (fotL x 16 [1, 2, 4, 8] && idB x 16) := rfl
  rw [e]
  have L : List.range 16 = [0, 1, 2, 3, 4, 5, 6, 7, 8, 9, 10, 11, 12, 13, 14, 15] := rfl
  have b := fun r => bitN_le x r
  have b0 := b 0; have b1 := b 1; have b2 := b 2; have b4 := b 4; have b7 := b 7; have b8 := b 8; have b11 := b 11; have b13 := b 13; have b14 := b 14; have b15 := b 15
  simp [allLt, L, s, fotL, fotS, idB, cls0, cls1]
  omega
theorem near_is {n x R : Nat} (h3 : 3 ≤ n) (h4 : n ≤ 4) (he : R = 2 ^ n) : nearB n x R = nearR n x R := by
  subst he
  rcases (show n = 3 ∨ n = 4 by omega) with rfl | rfl
  · exact near_three x
  · exact near_four x
theorem near_small {n x R : Nat} (h3 : n < 3) : nearB n x R = false := by
  unfold nearB
  rw [decide_eq_false (by omega)]
  rfl

set_option maxRecDepth 100000 in
set_option maxHeartbeats 4000000 in
theorem l10Near_any {n : Int} {x R : Nat} (ok : FOk n x R) (w : World) :
    Calls Try.prog 73 #[.agg #[.int .i64 n, .int .i64 (x : Int)]] w fun e w' => e = .returned (.bool (nearB n.toNat x R)) ∧ Below w.heap.size w w' := by
  obtain ⟨m, rfl⟩ : ∃ m : Nat, n = (m : Int) := Int.eq_ofNat_of_zero_le ok.h0
  have m4 : m ≤ 4 := by have := ok.h4; omega
  have hmn : ((m : Int)).toNat = m := by omega
  have he : R = 2 ^ m := by have := ok.he; rwa [hmn] at this
  rw [hmn]
  clear hmn
  have r0 := ok.r0
  have r16 := ok.r16
  obtain ⟨W1, hW1⟩ : ∃ W1, w.alloc (.cells #[.int .i64 (m : Int), .int .i64 (x : Int)] 43) = W1 := ⟨_, rfl⟩
  have p0 : W1.cell? ⟨w.heap.size, 0, none⟩ = some (.int .i64 (m : Int)) := by rw [← hW1]; simp [go_sem]
  have p1 : W1.cell? ⟨w.heap.size, 1, none⟩ = some (.int .i64 (x : Int)) := by rw [← hW1]; simp [go_sem]
  have hB : Below w.heap.size w W1 := by rw [← hW1]; exact bnew _ _
  by_cases h3 : m < 3
  · rw [near_small h3]
    have hd : decide ((m : Int) < 3) = true := decide_eq_true (by omega)
    go_enter Try.func73, Try.ntmps73
    go_wp2
    go_ret
    exact ⟨rfl, hB⟩
  · rw [near_is (by omega) m4 he]
    have hd : decide ((m : Int) < 3) = false := decide_eq_false (by omega)
    have RWS := Lib.hid (fun W => l01Rows_is ok.h0 ok.h4 ok.hR W)
    have hwm : IntKind.i64.wrap ((m : Int) - 1) = (m : Int) - 1 := wrap64_in (by omega) (by omega)
    clear he
    go_enter Try.func73, Try.ntmps73
    go_wp2
    clear hW1
    go_loopw [3] (fun i' wr => ∃ i : Nat, i ≤ R ∧ i' = .int .i64 i ∧ Hid (nearR m x i = true) ∧ ((wr.cell? ⟨w.heap.size, 0, none⟩ = some (.int .i64 m) ∧ wr.cell? ⟨w.heap.size, 1, none⟩ = some (.int .i64 (x : Int))) ∧ Below w.heap.size w wr))
      (fun i' _ => R - (intOf i').toNat)
    case atStart => exact ⟨0, by omega, rfl, Lib.hid rfl, ⟨p0, p1⟩, hB⟩
    case round =>
      clear p0 p1 hB
      obtain ⟨i, hi, rfl, hm, ⟨p0, p1⟩, hB⟩ := hrel
      by_cases hlt : i < R
      · have AT := Lib.hid (fun W => l01At_any (m : Int) x i ok.hx (by omega) W)
        have WT := Lib.hid (fun W => l10Weight_any i (by omega) W)
        have HN := fun (h : nearP m x i = true) => Lib.hid (show nearR m x (i + 1) = true by rw [nearR_succ, hm.out, h]; rfl)
        have HF := fun (h : nearP m x i = false) => Lib.hid (nearR_false hlt h)
        have hs := sizeN_le i
        have bl := bitN_le x i
        unfold nearP at HN HF
        generalize bitN x i = v at AT HN HF bl
        generalize sizeN i = z at WT HN HF hs
        by_cases hz : z ≤ 1
        · have g1 : decide ((z : Int) ≤ 1) = true := decide_eq_true (by omega)
          have g2 : decide ((m : Int) - 1 ≤ (z : Int)) = false := decide_eq_false (by omega)
          rcases (show v = 0 ∨ v = 1 by omega) with rfl | rfl
          · have H := HN (by simp; omega)
            clear HN HF hm
            go_wp2_with (first
              | (go_at_call 91; refine (RWS.out _).mono ?_; rintro e w' ⟨rfl, rfl⟩)
              | (go_at_call 103; refine (WT.out _).mono ?_; rintro e w' ⟨rfl, rfl⟩)
              | (go_at_call 71; refine (AT.out _).mono ?_; rintro e w2 ⟨rfl, hb2⟩; have q0 := kc hb2 p0; have q1 := kc hb2 p1))
            go_roundw
            case rel => exact ⟨i + 1, by omega, by go_num, H, ⟨q0, q1⟩, bthen hB hb2⟩
            case measure => simp [intOf]; omega
          · have H := HF (by simp; omega)
            clear HN HF hm
            go_wp2_with (first
              | (go_at_call 91; refine (RWS.out _).mono ?_; rintro e w' ⟨rfl, rfl⟩)
              | (go_at_call 103; refine (WT.out _).mono ?_; rintro e w' ⟨rfl, rfl⟩)
              | (go_at_call 71; refine (AT.out _).mono ?_; rintro e w2 ⟨rfl, hb2⟩))
            go_ret
            exact ⟨by rw [H.out]; rfl, bthen hB hb2⟩
        · have g1 : decide ((z : Int) ≤ 1) = false := decide_eq_false (by omega)
          by_cases hz2 : m - 1 ≤ z
          · have g2 : decide ((m : Int) - 1 ≤ (z : Int)) = true := decide_eq_true (by omega)
            rcases (show v = 0 ∨ v = 1 by omega) with rfl | rfl
            · have H := HF (by simp; omega)
              clear HN HF hm
              go_wp2_with (first
                | (go_at_call 91; refine (RWS.out _).mono ?_; rintro e w' ⟨rfl, rfl⟩)
                | (go_at_call 103; refine (WT.out _).mono ?_; rintro e w' ⟨rfl, rfl⟩)
                | (go_at_call 71; refine (AT.out _).mono ?_; rintro e w2 ⟨rfl, hb2⟩))
              go_ret
              exact ⟨by rw [H.out]; rfl, bthen hB hb2⟩
            · have H := HN (by simp; omega)
              clear HN HF hm
              go_wp2_with (first
                | (go_at_call 91; refine (RWS.out _).mono ?_; rintro e w' ⟨rfl, rfl⟩)
                | (go_at_call 103; refine (WT.out _).mono ?_; rintro e w' ⟨rfl, rfl⟩)
                | (go_at_call 71; refine (AT.out _).mono ?_; rintro e w2 ⟨rfl, hb2⟩; have q0 := kc hb2 p0; have q1 := kc hb2 p1))
              go_roundw
              case rel => exact ⟨i + 1, by omega, by go_num, H, ⟨q0, q1⟩, bthen hB hb2⟩
              case measure => simp [intOf]; omega
          · have g2 : decide ((m : Int) - 1 ≤ (z : Int)) = false := decide_eq_false (by omega)
            have H := HN (by simp; omega)
            clear HN HF hm
            go_wp2_with (first
              | (go_at_call 91; refine (RWS.out _).mono ?_; rintro e w' ⟨rfl, rfl⟩)
              | (go_at_call 103; refine (WT.out _).mono ?_; rintro e w' ⟨rfl, rfl⟩))
            go_roundw
            case rel => exact ⟨i + 1, by omega, by go_num, H, ⟨p0, p1⟩, hB⟩
            case measure => simp [intOf]; omega
      · obtain rfl : i = R := by omega
        have H1 := hm.out
        go_wp2_with (go_at_call 91; refine (RWS.out _).mono ?_; rintro e w' ⟨rfl, rfl⟩)
        go_ret
        exact ⟨by rw [H1]; rfl, hB⟩

set_option maxHeartbeats 1000000 in
theorem implHasNearUnanimity_no {n b : Int} (h : isF n b = false) (w : World) :
    Calls Try.prog 33 #[.agg #[.int .i64 n, .int .i64 b]] w fun e w' => e = .returned (.tuple #[.bool false, .int .i64 1]) ∧ Below w.heap.size w w' := by
  go_enter Try.func33, Try.ntmps33
  go_wp2_with (go_at_call 63; refine (IsFunc_is h _).mono ?_; rintro e w2 ⟨rfl, hb2⟩)
  go_ret2
  exact ⟨rfl, bthen (bnew _ _) hb2⟩

set_option maxHeartbeats 1000000 in
theorem specHasNearUnanimity_no {n b : Int} (h : isF n b = false) (w : World) :
    Calls Try.prog 32 #[.agg #[.int .i64 n, .int .i64 b]] w fun e w' => e = .returned (.tuple #[.bool false, .int .i64 1]) ∧ Below w.heap.size w w' := by
  go_enter Try.func32, Try.ntmps32
  go_wp2_with (go_at_call 61; refine (l01Is_is h _).mono ?_; rintro e w2 ⟨rfl, hb2⟩)
  go_ret2
  exact ⟨rfl, bthen (bnew _ _) hb2⟩

set_option maxHeartbeats 1000000 in
theorem implHasNearUnanimity_yes {n : Int} {x R : Nat} (ok : FOk n x R) (w : World) :
    Calls Try.prog 33 #[.agg #[.int .i64 n, .int .i64 (x : Int)]] w fun e w' => e = .returned (.tuple #[.bool (nearB n.toNat x R), .int .i64 0]) ∧ Below w.heap.size w w' := by
  have h := ok.is
  obtain ⟨W1, hW1⟩ : ∃ W1, w.alloc (.cells #[.int .i64 n, .int .i64 (x : Int)] 43) = W1 := ⟨_, rfl⟩
  have p0 : W1.cell? ⟨w.heap.size, 0, none⟩ = some (.int .i64 n) := by rw [← hW1]; simp [go_sem]
  have p1 : W1.cell? ⟨w.heap.size, 1, none⟩ = some (.int .i64 (x : Int)) := by rw [← hW1]; simp [go_sem]
  have hB : Below w.heap.size w W1 := by rw [← hW1]; exact bnew _ _
  have HJ := Lib.hid (fun W => hasNearUnanimity_any ok W)
  generalize nearB n.toNat x R = jb at HJ ⊢
  go_enter Try.func33, Try.ntmps33
  go_wp2_with (first
    | (go_at_call 63; refine (IsFunc_is h _).mono ?_; rintro e w2 ⟨rfl, hb2⟩; have d0 := kc hb2 p0; have d1 := kc hb2 p1)
    | (go_at_call 74; refine (HJ.out _).mono ?_; rintro e w3 ⟨rfl, hb3⟩))
  exact bodyPost_ret (v := .tuple #[.bool jb, .int .i64 0]) (by simp [results, Try.results33, go_sem]) rfl ⟨rfl, bthen (bthen hB hb2) hb3⟩

set_option maxHeartbeats 1000000 in
theorem specHasNearUnanimity_yes {n : Int} {x R : Nat} (ok : FOk n x R) (w : World) :
    Calls Try.prog 32 #[.agg #[.int .i64 n, .int .i64 (x : Int)]] w fun e w' => e = .returned (.tuple #[.bool (nearB n.toNat x R), .int .i64 0]) ∧ Below w.heap.size w w' := by
  have h := ok.is
  obtain ⟨W1, hW1⟩ : ∃ W1, w.alloc (.cells #[.int .i64 n, .int .i64 (x : Int)] 43) = W1 := ⟨_, rfl⟩
  have p0 : W1.cell? ⟨w.heap.size, 0, none⟩ = some (.int .i64 n) := by rw [← hW1]; simp [go_sem]
  have p1 : W1.cell? ⟨w.heap.size, 1, none⟩ = some (.int .i64 (x : Int)) := by rw [← hW1]; simp [go_sem]
  have hB : Below w.heap.size w W1 := by rw [← hW1]; exact bnew _ _
  have HJ := Lib.hid (fun W => l10Near_any ok W)
  generalize nearB n.toNat x R = jb at HJ ⊢
  go_enter Try.func32, Try.ntmps32
  go_wp2_with (first
    | (go_at_call 61; refine (l01Is_is h _).mono ?_; rintro e w2 ⟨rfl, hb2⟩; have d0 := kc hb2 p0; have d1 := kc hb2 p1)
    | (go_at_call 73; refine (HJ.out _).mono ?_; rintro e w3 ⟨rfl, hb3⟩))
  exact bodyPost_ret (v := .tuple #[.bool jb, .int .i64 0]) (by simp [results, Try.results32, go_sem]) rfl ⟨rfl, bthen (bthen hB hb2) hb3⟩

theorem bothHasNearUnanimity (n b : Int) (_ : (Lit.int .i64 n).wf = true) (_ : (Lit.int .i64 b).wf = true) : ∃ (rx : Bool) (rc : Int),
    (∀ w, Calls Try.prog 32 #[.agg #[.int .i64 n, .int .i64 b]] w fun e w' => e = .returned (.tuple #[.bool rx, .int .i64 rc]) ∧ Below w.heap.size w w') ∧
    (∀ w, Calls Try.prog 33 #[.agg #[.int .i64 n, .int .i64 b]] w fun e w' => e = .returned (.tuple #[.bool rx, .int .i64 rc]) ∧ Below w.heap.size w w') := by
  cases h : isF n b
  · exact ⟨_, _, specHasNearUnanimity_no h, implHasNearUnanimity_no h⟩
  · obtain ⟨x, R, rfl, ok⟩ := fok h
    exact ⟨_, _, specHasNearUnanimity_yes ok, implHasNearUnanimity_yes ok⟩
end Go.Proofs.Ytbdhlokbpbiijab

/- FHasNearUnanimity:
  The walk of the law on HasNearUnanimity: both packages answer alike. -/
namespace Go.Proofs.Ytbdhlokbpbiijab
open Go.RowKit

set_option maxRecDepth 100000 in
set_option maxHeartbeats 2000000 in
theorem fnExactHasNearUnanimity_walk (n0 : Int) (b0 : Int) (w : World) (wn0 : (Lit.int .i64 n0).wf = true) (wb0 : (Lit.int .i64 b0).wf = true) :
    Calls Try.prog 8 #[.agg #[.int .i64 n0, .int .i64 b0]] w fun e w' => e = .returned (.bool true) ∧ Below w.heap.size w w' := by
  obtain ⟨rx, rc, c1, c2⟩ := bothHasNearUnanimity n0 b0 wn0 wb0
  have C1 := Lib.hid c1
  have C2 := Lib.hid c2
  clear c1 c2 wn0 wb0
  have hB := Below.refl w.heap.size w
  go_enter Try.func8, Try.ntmps8
  have hB := balloc hB (.cells #[.int .i64 n0, .int .i64 b0] 40)
  go_wp2_with fail
  refine (toFunc_any n0 b0 _).mono ?_
  rintro e w1 ⟨rfl, hb1⟩
  have hB := bthen hB hb1
  obtain ⟨hc1, hf1⟩ := bcell hb1
  have l1_0 : w.heap.size < w1.heap.size := by have := hb1.size; (try simp at this); omega
  go_wp2_with fail
  refine (C1.out _).mono ?_
  rintro e w2 ⟨rfl, hb2⟩
  have hB := bthen hB hb2
  obtain ⟨hc2, hf2⟩ := bcell hb2
  have l2_0 : w.heap.size < w2.heap.size := by have := hb2.size; (try simp at this); omega
  go_wp2_with fail
  refine (toFunc_any n0 b0 _).mono ?_
  rintro e w3 ⟨rfl, hb3⟩
  have hB := bthen hB hb3
  obtain ⟨hc3, hf3⟩ := bcell hb3
  have l3_0 : w.heap.size < w3.heap.size := by have := hb3.size; (try simp at this); omega
  go_wp2_with fail
  refine (C2.out _).mono ?_
  rintro e w4 ⟨rfl, hb4⟩
  have hB := bthen hB hb4
  obtain ⟨hc4, hf4⟩ := bcell hb4
  have l4_0 : w.heap.size < w4.heap.size := by have := hb4.size; (try simp at this); omega
  go_wp2
  go_ret
  exact ⟨rfl, hB⟩
end Go.Proofs.Ytbdhlokbpbiijab
