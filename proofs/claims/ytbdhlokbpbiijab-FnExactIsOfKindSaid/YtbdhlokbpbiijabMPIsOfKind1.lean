/-
  The texts ID4, ID5, ID8, ID9, FIsOfKind in one.
-/
import Derived.Test.YtbdhlokbpbiijabMPIsIdempotent4
import Derived.Lib.BufferMore

/- ID4:
  Values that are the first of two arguments: isFirstOfTwo of the program. -/
namespace Go.Proofs.Ytbdhlokbpbiijab
open Go.RowKit Go.Shelf
set_option linter.unusedVariables false
set_option linter.unusedSimpArgs false

/-- The set s is 1 at arguments that do not tell: the value is that of the others. -/
def fotS (x R s : Nat) : Bool := bitN x s == 0 && bitN x (R - 1 - s) == 1
def fotT (x R : Nat) (l : List Nat) (k : Nat) : Bool := (l.take k).all (fotS x R)
def fotL (x R : Nat) (l : List Nat) : Bool := l.all (fotS x R)
theorem fotT_succ {x R : Nat} {l : List Nat} {k : Nat} (hk : k < l.length) : fotT x R l (k + 1) = (fotT x R l k && fotS x R (l[k]?.getD 0)) := by
  unfold fotT
  rw [List.take_succ_eq_append_getElem hk, List.all_append, List.getElem?_eq_getElem hk]
  simp
theorem fotT_all (x R : Nat) (l : List Nat) : fotT x R l l.length = fotL x R l := by unfold fotT fotL; rw [List.take_length]
theorem fotL_no {x R : Nat} {l : List Nat} {k : Nat} (hk : k < l.length) (h : fotS x R (l[k]?.getD 0) = false) : fotL x R l = false := by
  cases hc : fotL x R l
  · rfl
  · have := List.all_eq_true.1 hc _ (List.getElem_mem hk)
    rw [List.getElem?_eq_getElem hk] at h
    rw [← h]; exact this.symm

set_option maxRecDepth 100000 in
set_option maxHeartbeats 2000000 in
theorem isFirstOfTwo_any {n : Int} {x R : Nat} (ok : FOk n x R) {base : Nat} {s : Value} {l : List Nat} (hl : l.length ≤ 1048576) (hm : ∀ o ∈ l, o < R) (w : World) (h : Owns w base s (nL l)) :
    Calls Try.prog 105 #[.agg #[.int .i64 n, .int .i64 (x : Int)], s] w fun e w' => e = .returned (.bool (fotL x R l && idB x R)) ∧ Below w.heap.size w w' := by
  have r0 := ok.r0
  have r16 := ok.r16
  have ID := Lib.hid (fun W => isIdempotent_any ok W)
  generalize idB x R = ib at ID ⊢
  have hc : ∃ (a : Option Addr) (cap : Nat), s = .slice a l.length cap ∧ Hid (∀ j, j < l.length → ∃ g, a = some ⟨g, 0, none⟩ ∧ w.cell? ⟨g, j, none⟩ = some (.int .i64 (l[j]?.getD 0 : Nat))) := by
    rcases h.shape with ⟨he, a, cap, rfl⟩ | ⟨hn, g, cap, rfl, hbg, hg, hc, hf⟩
    · have e0 : l = [] := by cases l with
        | nil => rfl
        | cons a l => cases he
      subst e0
      exact ⟨_, _, rfl, Lib.hid fun j hj => absurd hj (Nat.not_lt_zero _)⟩
    · rw [nL_length] at hc
      exact ⟨_, _, by rw [nL_length], Lib.hid fun j hj => ⟨g, rfl, (hc.out j hj).trans (by rw [nL_get l j hj])⟩⟩
  obtain ⟨a, cap, rfl, HC⟩ := hc
  clear h
  have hG := Lib.hid (fun j (hj : j < l.length) => (show l[j]?.getD 0 < R by rw [List.getElem?_eq_getElem hj]; exact hm _ (List.getElem_mem hj)))
  have hS := Lib.hid (fun k (hk : k < l.length) => fotT_succ (x := x) (R := R) hk)
  have hT := Lib.hid (fun k (hk : k < l.length) => fotL_no (x := x) (R := R) hk)
  have hA := Lib.hid (fotT_all x R l)
  clear hm
  generalize l.length = m at hl HC hG hS hT hA ⊢
  generalize fotL x R l = B at hT hA ⊢
  have LR := Lib.hid (fun W => lastRow_is ok.h0 ok.h4 ok.r0 ok.r16 ok.hR W)
  obtain ⟨W1, hW1⟩ : ∃ W1, w.alloc (.cells #[.int .i64 n, .int .i64 (x : Int)] 43) = W1 := ⟨_, rfl⟩
  have p0 : W1.cell? ⟨w.heap.size, 0, none⟩ = some (.int .i64 n) := by rw [← hW1]; simp [go_sem]
  have p1 : W1.cell? ⟨w.heap.size, 1, none⟩ = some (.int .i64 (x : Int)) := by rw [← hW1]; simp [go_sem]
  have hB : Below w.heap.size w W1 := by rw [← hW1]; exact bnew _ _
  go_enter Try.func105, Try.ntmps105
  go_wp2
  clear hW1
  go_loopw [10] (fun i' wr => ∃ i : Nat, i ≤ m ∧ i' = .int .i64 i ∧ Hid (fotT x R l i = true) ∧ ((wr.cell? ⟨w.heap.size, 0, none⟩ = some (.int .i64 n) ∧ wr.cell? ⟨w.heap.size, 1, none⟩ = some (.int .i64 (x : Int))) ∧ Below w.heap.size w wr)) (fun i' _ => m - (intOf i').toNat)
  case atStart => exact ⟨0, Nat.zero_le _, rfl, Lib.hid rfl, ⟨p0, p1⟩, hB⟩
  case round =>
    clear p0 p1 hB
    obtain ⟨i, hi, rfl, HI, ⟨p0, p1⟩, hB⟩ := hrel
    by_cases hlt : i < m
    · obtain ⟨g, rfl, hc0⟩ := HC.out i hlt
      have hu := kc hB hc0
      have ho := hG.out i hlt
      have HS := Lib.hid (hS.out i hlt)
      have HT := Lib.hid (hT.out i hlt)
      clear hc0
      generalize l[i]?.getD 0 = o at hu ho HS HT
      have hw : IntKind.i64.wrap ((R : Int) - 1 - (o : Int)) = ((R - 1 - o : Nat) : Int) := by rw [show (R : Int) - 1 - (o : Int) = ((R - 1 - o : Nat) : Int) by omega]; exact wrap64_small (by omega) (by omega)
      have V1 := Lib.hid (fun W => valueInRow_any n x o ok.hx (by omega) W)
      have V2 := Lib.hid (fun W => valueInRow_any n x (R - 1 - o) ok.hx (by omega) W)
      have b1 := bitN_le x o
      have b2 := bitN_le x (R - 1 - o)
      unfold fotS at HS HT
      generalize bitN x (R - 1 - o) = v2 at V2 HS HT b2
      generalize bitN x o = v1 at V1 HS HT b1
      generalize R - 1 - o = o2 at V2 hw
      rcases (show v1 = 1 ∨ (v1 = 0 ∧ v2 = 0) ∨ (v1 = 0 ∧ v2 = 1) by omega) with rfl | ⟨rfl, rfl⟩ | ⟨rfl, rfl⟩
      · have HF := Lib.hid (HT.out rfl)
        clear HS HT
        go_wp2_with (first
          | (go_at_call 121; refine (LR.out _).mono ?_; rintro e w' ⟨rfl, rfl⟩)
          | (go_at_call 120; with_reducible refine (V1.out _).mono ?_; rintro e w2 ⟨rfl, hb2⟩))
        go_ret
        exact ⟨by rw [HF.out]; rfl, bthen hB hb2⟩
      · have HF := Lib.hid (HT.out rfl)
        clear HS HT
        go_wp2_with (go_at_call 121; refine (LR.out _).mono ?_; rintro e w' ⟨rfl, rfl⟩)
        refine (V1.out _).mono ?_
        rintro e w2 ⟨rfl, hb2⟩
        have q0 := kc hb2 p0
        have q1 := kc hb2 p1
        have hB2 := bthen hB hb2
        clear p0 p1 hB hu
        go_wp2_with fail
        refine (V2.out _).mono ?_
        rintro e w3 ⟨rfl, hb3⟩
        go_wp2
        go_ret
        exact ⟨by rw [HF.out]; rfl, bthen hB2 hb3⟩
      · have HN := Lib.hid (show fotT x R l (i + 1) = true by rw [HS.out, HI.out]; rfl)
        clear HS HT
        go_wp2_with (go_at_call 121; refine (LR.out _).mono ?_; rintro e w' ⟨rfl, rfl⟩)
        refine (V1.out _).mono ?_
        rintro e w2 ⟨rfl, hb2⟩
        have q0 := kc hb2 p0
        have q1 := kc hb2 p1
        have hB2 := bthen hB hb2
        clear p0 p1 hB hu
        go_wp2_with fail
        refine (V2.out _).mono ?_
        rintro e w3 ⟨rfl, hb3⟩
        have y0 := kc hb3 q0
        have y1 := kc hb3 q1
        have hB3 := bthen hB2 hb3
        clear q0 q1 hB2
        go_wp2
        go_roundw
        case rel => exact ⟨i + 1, by omega, by go_num, HN, ⟨y0, y1⟩, hB3⟩
        case measure => simp [intOf]; omega
    · obtain rfl : i = m := by omega
      have HE := Lib.hid (hA.out.symm.trans HI.out)
      go_wp2_with (go_at_call 64; refine (ID.out _).mono ?_; rintro e w2 ⟨rfl, hb2⟩)
      go_ret
      exact ⟨by rw [HE.out]; rfl, bthen hB hb2⟩
end Go.Proofs.Ytbdhlokbpbiijab

/- ID5:
  Near unanimity of the program: hasNearUnanimity. -/
namespace Go.Proofs.Ytbdhlokbpbiijab
open Go.RowKit Go.Shelf
set_option linter.unusedVariables false
set_option linter.unusedSimpArgs false

/-- The sets of one argument. -/
def pws (n : Nat) : List Nat := (List.range n).map fun i => 2 ^ i
theorem pws_len (n : Nat) : (pws n).length = n := by simp [pws]
theorem pws_succ (n : Nat) : nL (pws (n + 1)) = nL (pws n) ++ [((2 ^ n : Nat) : Int)] := by
  rw [← nL_snoc]; unfold pws; rw [List.range_succ, List.map_append]; rfl
theorem pws_lt {n o : Nat} (h : o ∈ pws n) : o < 2 ^ n := by
  simp only [pws, List.mem_map, List.mem_range] at h
  obtain ⟨i, hi, rfl⟩ := h
  exact Nat.pow_lt_pow_right (by decide) hi
def nearB (n x R : Nat) : Bool := decide (3 ≤ n) && (fotL x R (pws n) && idB x R)

set_option maxRecDepth 100000 in
set_option maxHeartbeats 2000000 in
theorem hasNearUnanimity_any {n : Int} {x R : Nat} (ok : FOk n x R) (w : World) :
    Calls Try.prog 74 #[.agg #[.int .i64 n, .int .i64 (x : Int)]] w fun e w' => e = .returned (.bool (nearB n.toNat x R)) ∧ Below w.heap.size w w' := by
  obtain ⟨i0, hi, hz0, hz1, hz2⟩ := info_parts infoI
  obtain ⟨m, rfl⟩ : ∃ m : Nat, n = (m : Int) := Int.eq_ofNat_of_zero_le ok.h0
  have m4 : m ≤ 4 := by have := ok.h4; omega
  have hmn : ((m : Int)).toNat = m := by omega
  have he : R = 2 ^ m := by have := ok.he; rwa [hmn] at this
  rw [hmn]
  have FT := Lib.hid (fun W base s (h : Owns W base s (nL (pws m))) => isFirstOfTwo_any ok (by rw [pws_len]; omega) (fun o ho => by rw [he]; exact pws_lt ho) W h)
  clear he hmn
  unfold nearB
  generalize (fotL x R (pws m) && idB x R) = fb at FT ⊢
  obtain ⟨W1, hW1⟩ : ∃ W1, w.alloc (.cells #[.int .i64 (m : Int), .int .i64 (x : Int)] 43) = W1 := ⟨_, rfl⟩
  have p0 : W1.cell? ⟨w.heap.size, 0, none⟩ = some (.int .i64 (m : Int)) := by rw [← hW1]; simp [go_sem]
  have p1 : W1.cell? ⟨w.heap.size, 1, none⟩ = some (.int .i64 (x : Int)) := by rw [← hW1]; simp [go_sem]
  have hB : Below w.heap.size w W1 := by rw [← hW1]; exact bnew _ _
  go_enter Try.func74, Try.ntmps74
  go_wp2
  clear hW1
  go_loopw [3, 7] (fun s i' wr => ∃ k : Nat, k ≤ m ∧ i' = .int .i64 k ∧ Hid (Owns wr W1.heap.size s (nL (pws k))) ∧ Below W1.heap.size W1 wr) (fun _ i' _ => m - (intOf i').toNat)
  case atStart => exact ⟨0, Nat.zero_le _, rfl, Lib.hid (Owns.nil _ _), Below.refl _ _⟩
  case round =>
    obtain ⟨k, hk, rfl, HOWN, hN⟩ := hrel
    have hsz := hN.size
    have q0 := kc hN p0
    have q1 := kc hN p1
    by_cases hlt : k < m
    · have hv := shl_one k (by omega)
      have HS := Lib.hid (pws_succ k)
      have hlen : (nL (pws k)).length = k := by rw [nL_length, pws_len]
      have hown := HOWN.out
      unfold Owns at hown
      rw [hlen] at hown
      clear hlen
      generalize (2 : Nat) ^ k = q at hv HS
      go_wp2_with (at_builtin; refine wpList_append_own _ rfl _ _ 25 rfl W1.heap.size 2 i0 (.int .i64 0) 1 8 Try.underlying25 hi hz0 hz1 hz2 rfl (by decide) _ _ _ rfl (hown.alloc _) ⟨wr.heap.size, 0, none⟩ 1 1 [.int .i64 (q : Int)] rfl rfl (cell_one_new _ _ _) (one_cell_int _) (by unfold maxLen; omega) (by omega) (by simp; omega) ?_)
      intro v' w1 hown' hgrow _
      have hN' := (balloc hN (.cells #[.int .i64 (q : Int)] 2)).grown hgrow (by simp; omega) (fun j e => (World.ownsRow.lt hown j e).1)
      clear hgrow hown hN
      go_wp2
      go_roundw
      case rel => exact ⟨k + 1, by omega, by go_num, Lib.hid (by rw [HS.out]; unfold Owns; rw [ints_snoc, List.length_append, nL_length, pws_len]; exact hown'), hN'⟩
      case measure => simp [intOf]; omega
    · obtain rfl : k = m := by omega
      have hBN := bthen hB hN
      by_cases h3 : 3 ≤ k
      · have hd : decide ((3 : Int) ≤ (k : Int)) = true := decide_eq_true (by omega)
        have hd2 : decide (3 ≤ k) = true := decide_eq_true h3
        have F2 := Lib.hid (FT.out wr _ _ HOWN.out)
        go_wp2_with (go_at_call 105; refine (F2.out).mono ?_; rintro e w2 ⟨rfl, hb2⟩)
        go_ret
        exact ⟨by first | rfl | simp [hd2], bthen hBN hb2⟩
      · have hd : decide ((3 : Int) ≤ (k : Int)) = false := decide_eq_false (by omega)
        have hd2 : decide (3 ≤ k) = false := decide_eq_false h3
        go_wp2
        go_ret
        exact ⟨by first | rfl | simp [hd2], hBN⟩
end Go.Proofs.Ytbdhlokbpbiijab

/- ID8:
  Kinds of functions of three arguments: isOfKind of the program, l10Kind of the model. -/
namespace Go.Proofs.Ytbdhlokbpbiijab
open Go.RowKit Go.Shelf
set_option linter.unusedVariables false
set_option linter.unusedSimpArgs false

/-- The sets of a kind. -/
def kdL (k : Nat) : List Nat := match k with | 0 => [4, 2, 1] | 1 => [3, 5, 6] | _ => [6, 3]
def kdB (n : Int) (x R k : Nat) : Bool := (n == 3) && (if k = 3 then idB x R && symB x R else fotL x R (kdL k) && idB x R)
theorem kdB_other {n : Int} (h : n ≠ 3) (x R k : Nat) : kdB n x R k = false := by
  unfold kdB
  have : (n == 3) = false := by simpa using h
  rw [this]; rfl
/-- x and y do not show that a function is of no kind k. -/
def knP (k x a b : Nat) : Bool := match k with
  | 0 => bitN x (a + 2 * a + 4 * b) == a && (bitN x (a + 2 * b + 4 * a) == a && bitN x (b + 2 * a + 4 * a) == a)
  | 1 => bitN x (a + 2 * a + 4 * b) == b && (bitN x (a + 2 * b + 4 * a) == b && bitN x (b + 2 * a + 4 * a) == b)
  | _ => bitN x (b + 2 * a + 4 * a) == b && bitN x (a + 2 * a + 4 * b) == b
def knI (k x a j : Nat) : Bool := allLt j fun b => knP k x a b
def knA (k x i : Nat) : Bool := allLt i fun a => knI k x a 2
theorem knI_succ (k x a j : Nat) : knI k x a (j + 1) = (knI k x a j && knP k x a j) := allLt_succ _ _
theorem knA_succ (k x i : Nat) : knA k x (i + 1) = (knA k x i && knI k x i 2) := allLt_succ _ _
theorem knA_false {k x a b : Nat} (ha : a < 2) (hb : b < 2) (h : knP k x a b = false) : knA k x 2 = false := by
  cases hc : knA k x 2
  · rfl
  · have := allLt_iff.1 (allLt_iff.1 hc a ha) b hb
    rw [h] at this
    cases this
theorem kn_is : ∀ k, k < 3 → ∀ x, x < 256 → knA k x 2 = (fotL x 8 (kdL k) && idB x 8) := by decide +kernel
theorem kdB_kn {x k : Nat} (hk : k < 3) (hx : x < 256) : kdB 3 x 8 k = knA k x 2 := by
  unfold kdB
  rw [if_neg (by omega), kn_is k hk x hx]; rfl
theorem kdB_three (x R : Nat) : kdB 3 x R 3 = (idB x R && symB x R) := by unfold kdB; rw [if_pos rfl]; rfl
theorem l01At_to {n : Int} {x k : Nat} (hx : x < 2 ^ 62) (hk : k < 62) (J : Int) (w : World) (h : J = (k : Int)) :
    Calls Try.prog 71 #[.agg #[.int .i64 n, .int .i64 (x : Int)], .int .i64 J] w fun e w' => e = .returned (.int .i64 (bitN x k : Int)) ∧ Below w.heap.size w w' := h ▸ l01At_any n x k hx hk w

set_option maxRecDepth 100000 in
set_option maxHeartbeats 4000000 in
theorem isOfKind_other {n : Int} {x R : Nat} (ok : FOk n x R) (hn : n ≠ 3) (k : Int) (w : World) :
    Calls Try.prog 70 #[.agg #[.int .i64 n, .int .i64 (x : Int)], .int .i64 k] w fun e w' => e = .returned (.bool false) ∧ Below w.heap.size w w' := by
  have hne : (n != 3) = true := by simpa using hn
  obtain ⟨W1, hW1⟩ : ∃ W1, w.alloc (.cells #[.int .i64 n, .int .i64 (x : Int)] 43) = W1 := ⟨_, rfl⟩
  have p0 : W1.cell? ⟨w.heap.size, 0, none⟩ = some (.int .i64 n) := by rw [← hW1]; simp [go_sem]
  have p1 : W1.cell? ⟨w.heap.size, 1, none⟩ = some (.int .i64 (x : Int)) := by rw [← hW1]; simp [go_sem]
  have hB : Below w.heap.size w W1 := by rw [← hW1]; exact bnew _ _
  go_enter Try.func70, Try.ntmps70
  go_wp2
  go_ret
  exact ⟨rfl, hB⟩

set_option maxRecDepth 100000 in
set_option maxHeartbeats 4000000 in
theorem isOfKind_0 {x R : Nat} (ok : FOk 3 x R) (w : World) :
    Calls Try.prog 70 #[.agg #[.int .i64 3, .int .i64 (x : Int)], .int .i64 0] w fun e w' => e = .returned (.bool (kdB 3 x R 0)) ∧ Below w.heap.size w w' := by
  have hR : R = 8 := by rw [ok.he]; rfl
  have HE : Hid (kdB 3 x R 0 = (fotL x R [4, 2, 1] && idB x R)) := Lib.hid (by unfold kdB; rw [if_neg (by decide)]; rfl)
  have FT := Lib.hid (fun W base s (h : Owns W base s (nL [4, 2, 1])) => isFirstOfTwo_any ok (l := [4, 2, 1]) (by decide) (by rw [hR]; decide) W h)
  rw [HE.out]
  generalize (fotL x R [4, 2, 1] && idB x R) = fb at FT ⊢
  clear hR HE
  obtain ⟨W1, hW1⟩ : ∃ W1, w.alloc (.cells #[.int .i64 3, .int .i64 (x : Int)] 43) = W1 := ⟨_, rfl⟩
  have p0 : W1.cell? ⟨w.heap.size, 0, none⟩ = some (.int .i64 3) := by rw [← hW1]; simp [go_sem]
  have p1 : W1.cell? ⟨w.heap.size, 1, none⟩ = some (.int .i64 (x : Int)) := by rw [← hW1]; simp [go_sem]
  have hB : Below w.heap.size w W1 := by rw [← hW1]; exact bnew _ _
  have HO : Hid (Owns (W1.alloc (.cells #[.int .i64 4, .int .i64 2, .int .i64 1] 2)) 0 (.slice (some ⟨W1.heap.size, 0, none⟩) 3 3) (nL [4, 2, 1])) := Lib.hid (World.ownsRow_lit W1 #[.int .i64 4, .int .i64 2, .int .i64 1] 3 (Nat.zero_le _) (by decide) rfl)
  go_enter Try.func70, Try.ntmps70
  go_wp2_with (go_at_call 105; refine (FT.out _ _ _ HO.out).mono ?_; rintro e w2 ⟨rfl, hb2⟩)
  go_ret
  exact ⟨rfl, bthen (balloc hB _) hb2⟩

set_option maxRecDepth 100000 in
set_option maxHeartbeats 4000000 in
theorem isOfKind_1 {x R : Nat} (ok : FOk 3 x R) (w : World) :
    Calls Try.prog 70 #[.agg #[.int .i64 3, .int .i64 (x : Int)], .int .i64 1] w fun e w' => e = .returned (.bool (kdB 3 x R 1)) ∧ Below w.heap.size w w' := by
  have hR : R = 8 := by rw [ok.he]; rfl
  have HE : Hid (kdB 3 x R 1 = (fotL x R [3, 5, 6] && idB x R)) := Lib.hid (by unfold kdB; rw [if_neg (by decide)]; rfl)
  have FT := Lib.hid (fun W base s (h : Owns W base s (nL [3, 5, 6])) => isFirstOfTwo_any ok (l := [3, 5, 6]) (by decide) (by rw [hR]; decide) W h)
  rw [HE.out]
  generalize (fotL x R [3, 5, 6] && idB x R) = fb at FT ⊢
  clear hR HE
  obtain ⟨W1, hW1⟩ : ∃ W1, w.alloc (.cells #[.int .i64 3, .int .i64 (x : Int)] 43) = W1 := ⟨_, rfl⟩
  have p0 : W1.cell? ⟨w.heap.size, 0, none⟩ = some (.int .i64 3) := by rw [← hW1]; simp [go_sem]
  have p1 : W1.cell? ⟨w.heap.size, 1, none⟩ = some (.int .i64 (x : Int)) := by rw [← hW1]; simp [go_sem]
  have hB : Below w.heap.size w W1 := by rw [← hW1]; exact bnew _ _
  have HO : Hid (Owns (W1.alloc (.cells #[.int .i64 3, .int .i64 5, .int .i64 6] 2)) 0 (.slice (some ⟨W1.heap.size, 0, none⟩) 3 3) (nL [3, 5, 6])) := Lib.hid (World.ownsRow_lit W1 #[.int .i64 3, .int .i64 5, .int .i64 6] 3 (Nat.zero_le _) (by decide) rfl)
  go_enter Try.func70, Try.ntmps70
  go_wp2_with (go_at_call 105; refine (FT.out _ _ _ HO.out).mono ?_; rintro e w2 ⟨rfl, hb2⟩)
  go_ret
  exact ⟨rfl, bthen (balloc hB _) hb2⟩

set_option maxRecDepth 100000 in
set_option maxHeartbeats 4000000 in
theorem isOfKind_2 {x R : Nat} (ok : FOk 3 x R) (w : World) :
    Calls Try.prog 70 #[.agg #[.int .i64 3, .int .i64 (x : Int)], .int .i64 2] w fun e w' => e = .returned (.bool (kdB 3 x R 2)) ∧ Below w.heap.size w w' := by
  have hR : R = 8 := by rw [ok.he]; rfl
  have HE : Hid (kdB 3 x R 2 = (fotL x R [6, 3] && idB x R)) := Lib.hid (by unfold kdB; rw [if_neg (by decide)]; rfl)
  have FT := Lib.hid (fun W base s (h : Owns W base s (nL [6, 3])) => isFirstOfTwo_any ok (l := [6, 3]) (by decide) (by rw [hR]; decide) W h)
  rw [HE.out]
  generalize (fotL x R [6, 3] && idB x R) = fb at FT ⊢
  clear hR HE
  obtain ⟨W1, hW1⟩ : ∃ W1, w.alloc (.cells #[.int .i64 3, .int .i64 (x : Int)] 43) = W1 := ⟨_, rfl⟩
  have p0 : W1.cell? ⟨w.heap.size, 0, none⟩ = some (.int .i64 3) := by rw [← hW1]; simp [go_sem]
  have p1 : W1.cell? ⟨w.heap.size, 1, none⟩ = some (.int .i64 (x : Int)) := by rw [← hW1]; simp [go_sem]
  have hB : Below w.heap.size w W1 := by rw [← hW1]; exact bnew _ _
  have HO : Hid (Owns (W1.alloc (.cells #[.int .i64 6, .int .i64 3] 2)) 0 (.slice (some ⟨W1.heap.size, 0, none⟩) 2 2) (nL [6, 3])) := Lib.hid (World.ownsRow_lit W1 #[.int .i64 6, .int .i64 3] 2 (Nat.zero_le _) (by decide) rfl)
  go_enter Try.func70, Try.ntmps70
  go_wp2_with (go_at_call 105; refine (FT.out _ _ _ HO.out).mono ?_; rintro e w2 ⟨rfl, hb2⟩)
  go_ret
  exact ⟨rfl, bthen (balloc hB _) hb2⟩

set_option maxRecDepth 100000 in
set_option maxHeartbeats 4000000 in
theorem isOfKind_3 {x R : Nat} (ok : FOk 3 x R) (w : World) :
    Calls Try.prog 70 #[.agg #[.int .i64 3, .int .i64 (x : Int)], .int .i64 3] w fun e w' => e = .returned (.bool (kdB 3 x R 3)) ∧ Below w.heap.size w w' := by
  rw [kdB_three]
  have IS := Lib.hid (fun W => isIdempotentAndSymmetric_any ok W)
  generalize (idB x R && symB x R) = fb at IS ⊢
  obtain ⟨W1, hW1⟩ : ∃ W1, w.alloc (.cells #[.int .i64 3, .int .i64 (x : Int)] 43) = W1 := ⟨_, rfl⟩
  have p0 : W1.cell? ⟨w.heap.size, 0, none⟩ = some (.int .i64 3) := by rw [← hW1]; simp [go_sem]
  have p1 : W1.cell? ⟨w.heap.size, 1, none⟩ = some (.int .i64 (x : Int)) := by rw [← hW1]; simp [go_sem]
  have hB : Below w.heap.size w W1 := by rw [← hW1]; exact bnew _ _
  go_enter Try.func70, Try.ntmps70
  go_wp2_with (go_at_call 72; refine (IS.out _).mono ?_; rintro e w2 ⟨rfl, hb2⟩)
  go_ret
  exact ⟨rfl, bthen hB hb2⟩

theorem isOfKind_any {n : Int} {x R : Nat} (ok : FOk n x R) (k : Nat) (hk : k < 4) (w : World) :
    Calls Try.prog 70 #[.agg #[.int .i64 n, .int .i64 (x : Int)], .int .i64 (k : Int)] w fun e w' => e = .returned (.bool (kdB n x R k)) ∧ Below w.heap.size w w' := by
  by_cases hn : n = 3
  · subst hn
    rcases (show k = 0 ∨ k = 1 ∨ k = 2 ∨ k = 3 by omega) with rfl | rfl | rfl | rfl
    · exact isOfKind_0 ok w
    · exact isOfKind_1 ok w
    · exact isOfKind_2 ok w
    · exact isOfKind_3 ok w
  · rw [kdB_other hn]
    exact isOfKind_other ok hn _ w

set_option maxRecDepth 100000 in
set_option maxHeartbeats 4000000 in
theorem l10Kind_other {n : Int} {x R : Nat} (ok : FOk n x R) (hn : n ≠ 3) (k : Int) (w : World) :
    Calls Try.prog 68 #[.agg #[.int .i64 n, .int .i64 (x : Int)], .int .i64 k] w fun e w' => e = .returned (.bool false) ∧ Below w.heap.size w w' := by
  have hne : (n != 3) = true := by simpa using hn
  obtain ⟨W1, hW1⟩ : ∃ W1, w.alloc (.cells #[.int .i64 n, .int .i64 (x : Int)] 43) = W1 := ⟨_, rfl⟩
  have p0 : W1.cell? ⟨w.heap.size, 0, none⟩ = some (.int .i64 n) := by rw [← hW1]; simp [go_sem]
  have p1 : W1.cell? ⟨w.heap.size, 1, none⟩ = some (.int .i64 (x : Int)) := by rw [← hW1]; simp [go_sem]
  have hB : Below w.heap.size w W1 := by rw [← hW1]; exact bnew _ _
  go_enter Try.func68, Try.ntmps68
  go_wp2
  go_ret
  exact ⟨rfl, hB⟩

set_option maxRecDepth 100000 in
set_option maxHeartbeats 4000000 in
theorem l10Kind_3 {x R : Nat} (ok : FOk 3 x R) (w : World) :
    Calls Try.prog 68 #[.agg #[.int .i64 3, .int .i64 (x : Int)], .int .i64 3] w fun e w' => e = .returned (.bool (kdB 3 x R 3)) ∧ Below w.heap.size w w' := by
  rw [kdB_three]
  have A0 := fun W => l10Idem_any ok W
  have B := Lib.hid (fun W => l10Symmetric_any ok W)
  generalize symB x R = fb at B ⊢
  obtain ⟨W1, hW1⟩ : ∃ W1, w.alloc (.cells #[.int .i64 3, .int .i64 (x : Int)] 43) = W1 := ⟨_, rfl⟩
  have p0 : W1.cell? ⟨w.heap.size, 0, none⟩ = some (.int .i64 3) := by rw [← hW1]; simp [go_sem]
  have p1 : W1.cell? ⟨w.heap.size, 1, none⟩ = some (.int .i64 (x : Int)) := by rw [← hW1]; simp [go_sem]
  have hB : Below w.heap.size w W1 := by rw [← hW1]; exact bnew _ _
  cases h0 : idB x R
  · rw [h0] at A0
    have A := Lib.hid A0
    clear A0 h0
    go_enter Try.func68, Try.ntmps68
    go_wp2_with (go_at_call 62; refine (A.out _).mono ?_; rintro e w2 ⟨rfl, hb2⟩)
    go_ret
    exact ⟨rfl, bthen hB hb2⟩
  · rw [h0] at A0
    have A := Lib.hid A0
    clear A0 h0
    go_enter Try.func68, Try.ntmps68
    go_wp2_with fail
    refine (A.out _).mono ?_
    rintro e w2 ⟨rfl, hb2⟩
    have q0 := kc hb2 p0
    have q1 := kc hb2 p1
    have hB2 := bthen hB hb2
    clear p0 p1 hW1
    go_wp2_with fail
    refine (B.out _).mono ?_
    rintro e w3 ⟨rfl, hb3⟩
    go_wp2
    go_ret
    exact ⟨rfl, bthen hB2 hb3⟩

set_option maxRecDepth 100000 in
set_option maxHeartbeats 4000000 in
theorem l10Kind_0 {x : Nat} (ok : FOk 3 x 8) (w : World) :
    Calls Try.prog 68 #[.agg #[.int .i64 3, .int .i64 (x : Int)], .int .i64 0] w fun e w' => e = .returned (.bool (knA 0 x 2)) ∧ Below w.heap.size w w' := by
  obtain ⟨W1, hW1⟩ : ∃ W1, w.alloc (.cells #[.int .i64 3, .int .i64 (x : Int)] 43) = W1 := ⟨_, rfl⟩
  have p0 : W1.cell? ⟨w.heap.size, 0, none⟩ = some (.int .i64 3) := by rw [← hW1]; simp [go_sem]
  have p1 : W1.cell? ⟨w.heap.size, 1, none⟩ = some (.int .i64 (x : Int)) := by rw [← hW1]; simp [go_sem]
  have hB : Below w.heap.size w W1 := by rw [← hW1]; exact bnew _ _
  go_enter Try.func68, Try.ntmps68
  go_wp2
  clear hW1
  go_loopw [5] (fun i' wr => ∃ a : Nat, a ≤ 2 ∧ i' = .int .i64 a ∧ Hid (knA 0 x a = true) ∧ ((wr.cell? ⟨w.heap.size, 0, none⟩ = some (.int .i64 3) ∧ wr.cell? ⟨w.heap.size, 1, none⟩ = some (.int .i64 (x : Int))) ∧ Below w.heap.size w wr)) (fun i' _ => 2 - (intOf i').toNat)
  case atStart => exact ⟨0, by omega, rfl, Lib.hid rfl, ⟨p0, p1⟩, hB⟩
  case round =>
    clear p0 p1 hB
    obtain ⟨a, ha, rfl, hm, ⟨p0, p1⟩, hB⟩ := hrel
    obtain ⟨wo, rfl⟩ : ∃ wo : World, wo = wr := ⟨_, rfl⟩
    by_cases hlt : a < 2
    · have l1 : decide ((a : Int) < 2) = true := decide_eq_true (by omega)
      go_wp2
      go_loopw [6] (fun v' wr => ∃ b : Nat, b ≤ 2 ∧ v' = .int .i64 b ∧ Hid (knI 0 x a b = true) ∧ ((wr.cell? ⟨w.heap.size, 0, none⟩ = some (.int .i64 3) ∧ wr.cell? ⟨w.heap.size, 1, none⟩ = some (.int .i64 (x : Int))) ∧ Below w.heap.size w wr)) (fun v' _ => 2 - (intOf v').toNat)
      case atStart => exact ⟨0, by omega, rfl, Lib.hid rfl, ⟨p0, p1⟩, hB⟩
      case round =>
        clear p0 p1 hB
        obtain ⟨b, hb, rfl, hu, ⟨p0, p1⟩, hB⟩ := hrel
        by_cases hltb : b < 2
        · have l2 : decide ((b : Int) < 2) = true := decide_eq_true (by omega)
          have A1 := Lib.hid (l01At_to (n := 3) (x := x) (k := a + 2 * a + 4 * b) ok.hx (by omega))
          have A2 := Lib.hid (l01At_to (n := 3) (x := x) (k := a + 2 * b + 4 * a) ok.hx (by omega))
          have A3 := Lib.hid (l01At_to (n := 3) (x := x) (k := b + 2 * a + 4 * a) ok.hx (by omega))
          have HN := fun (h : knP 0 x a b = true) => Lib.hid (show knI 0 x a (b + 1) = true by rw [knI_succ, hu.out, h]; rfl)
          have HF := fun (h : knP 0 x a b = false) => Lib.hid (knA_false hlt hltb h)
          unfold knP at HN HF
          have w1 : IntKind.i64.wrap (2 * (a : Int)) = 2 * (a : Int) := wrap64_in (by omega) (by omega)
          have w2 : IntKind.i64.wrap (2 * (b : Int)) = 2 * (b : Int) := wrap64_in (by omega) (by omega)
          have w3 : IntKind.i64.wrap (4 * (a : Int)) = 4 * (a : Int) := wrap64_in (by omega) (by omega)
          have w4 : IntKind.i64.wrap (4 * (b : Int)) = 4 * (b : Int) := wrap64_in (by omega) (by omega)
          have w5 : IntKind.i64.wrap ((a : Int) + 2 * (a : Int)) = (a : Int) + 2 * (a : Int) := wrap64_in (by omega) (by omega)
          have w6 : IntKind.i64.wrap ((a : Int) + 2 * (b : Int)) = (a : Int) + 2 * (b : Int) := wrap64_in (by omega) (by omega)
          have w7 : IntKind.i64.wrap ((b : Int) + 2 * (a : Int)) = (b : Int) + 2 * (a : Int) := wrap64_in (by omega) (by omega)
          have w8 : IntKind.i64.wrap ((a : Int) + 2 * (a : Int) + 4 * (b : Int)) = (a : Int) + 2 * (a : Int) + 4 * (b : Int) := wrap64_in (by omega) (by omega)
          have w9 : IntKind.i64.wrap ((a : Int) + 2 * (b : Int) + 4 * (a : Int)) = (a : Int) + 2 * (b : Int) + 4 * (a : Int) := wrap64_in (by omega) (by omega)
          have w10 : IntKind.i64.wrap ((b : Int) + 2 * (a : Int) + 4 * (a : Int)) = (b : Int) + 2 * (a : Int) + 4 * (a : Int) := wrap64_in (by omega) (by omega)
          generalize bitN x (a + 2 * a + 4 * b) = v1 at A1 HN HF
          generalize bitN x (a + 2 * b + 4 * a) = v2 at A2 HN HF
          generalize bitN x (b + 2 * a + 4 * a) = v3 at A3 HN HF
          by_cases ev1 : v1 = a
          · by_cases ev2 : v2 = a
            · by_cases ev3 : v3 = a
              · have H := HN (by simp [ev1, ev2, ev3])
                have nv1 : ((v1 : Int) != (a : Int)) = false := by simp [ev1]
                have nv2 : ((v2 : Int) != (a : Int)) = false := by simp [ev2]
                have nv3 : ((v3 : Int) != (a : Int)) = false := by simp [ev3]
                clear HN HF hu ev1 ev2 ev3
                go_wp2
                go_region_held3 (fun w' => (w'.cell? ⟨w.heap.size, 0, none⟩ = some (.int .i64 3) ∧ w'.cell? ⟨w.heap.size, 1, none⟩ = some (.int .i64 (x : Int))) ∧ Below w.heap.size w w') (first | exact ⟨⟨p0, p1⟩, hB.drew⟩ | assumption | exact step_heldC hb1 (by assumption))
                  (first
                    | (go_at_call 71; refine (A1.out _ _ (by omega)).mono ?_; rintro e w' ⟨rfl, hb1⟩)
                    | (go_at_call 71; refine (A2.out _ _ (by omega)).mono ?_; rintro e w' ⟨rfl, hb1⟩)
                    | (go_at_call 71; refine (A3.out _ _ (by omega)).mono ?_; rintro e w' ⟨rfl, hb1⟩)
                    | fail)
                obtain ⟨⟨y0, y1⟩, hB3⟩ := (‹(_ ∧ _) ∧ Below _ _ _›)
                go_wp2
                go_roundw
                case rel => exact ⟨b + 1, by omega, by go_num, H, ⟨y0, y1⟩, hB3⟩
                case measure => simp [intOf]; omega
              · have H := HF (by simp [ev1, ev2, ev3])
                have nv1 : ((v1 : Int) != (a : Int)) = false := by simp [ev1]
                have nv2 : ((v2 : Int) != (a : Int)) = false := by simp [ev2]
                have nv3 : ((v3 : Int) != (a : Int)) = true := by simp; omega
                clear HN HF hu ev1 ev2 ev3
                go_wp2
                go_region_held3 (fun w' => (w'.cell? ⟨w.heap.size, 0, none⟩ = some (.int .i64 3) ∧ w'.cell? ⟨w.heap.size, 1, none⟩ = some (.int .i64 (x : Int))) ∧ Below w.heap.size w w') (first | exact ⟨⟨p0, p1⟩, hB.drew⟩ | assumption | exact step_heldC hb1 (by assumption))
                  (first
                    | (go_at_call 71; refine (A1.out _ _ (by omega)).mono ?_; rintro e w' ⟨rfl, hb1⟩)
                    | (go_at_call 71; refine (A2.out _ _ (by omega)).mono ?_; rintro e w' ⟨rfl, hb1⟩)
                    | (go_at_call 71; refine (A3.out _ _ (by omega)).mono ?_; rintro e w' ⟨rfl, hb1⟩)
                    | fail)
                obtain ⟨⟨y0, y1⟩, hB3⟩ := (‹(_ ∧ _) ∧ Below _ _ _›)
                go_wp2
                go_ret
                exact ⟨by rw [H.out]; rfl, hB3⟩
            · have H := HF (by simp [ev1, ev2])
              have nv1 : ((v1 : Int) != (a : Int)) = false := by simp [ev1]
              have nv2 : ((v2 : Int) != (a : Int)) = true := by simp; omega
              clear HN HF hu ev1 ev2
              go_wp2
              go_region_held3 (fun w' => (w'.cell? ⟨w.heap.size, 0, none⟩ = some (.int .i64 3) ∧ w'.cell? ⟨w.heap.size, 1, none⟩ = some (.int .i64 (x : Int))) ∧ Below w.heap.size w w') (first | exact ⟨⟨p0, p1⟩, hB.drew⟩ | assumption | exact step_heldC hb1 (by assumption))
                (first
                  | (go_at_call 71; refine (A1.out _ _ (by omega)).mono ?_; rintro e w' ⟨rfl, hb1⟩)
                  | (go_at_call 71; refine (A2.out _ _ (by omega)).mono ?_; rintro e w' ⟨rfl, hb1⟩)
                  | (go_at_call 71; refine (A3.out _ _ (by omega)).mono ?_; rintro e w' ⟨rfl, hb1⟩)
                  | fail)
              obtain ⟨⟨y0, y1⟩, hB3⟩ := (‹(_ ∧ _) ∧ Below _ _ _›)
              go_wp2
              go_ret
              exact ⟨by rw [H.out]; rfl, hB3⟩
          · have H := HF (by simp [ev1])
            have nv1 : ((v1 : Int) != (a : Int)) = true := by simp; omega
            clear HN HF hu ev1
            go_wp2
            go_region_held3 (fun w' => (w'.cell? ⟨w.heap.size, 0, none⟩ = some (.int .i64 3) ∧ w'.cell? ⟨w.heap.size, 1, none⟩ = some (.int .i64 (x : Int))) ∧ Below w.heap.size w w') (first | exact ⟨⟨p0, p1⟩, hB.drew⟩ | assumption | exact step_heldC hb1 (by assumption))
              (first
                | (go_at_call 71; refine (A1.out _ _ (by omega)).mono ?_; rintro e w' ⟨rfl, hb1⟩)
                | (go_at_call 71; refine (A2.out _ _ (by omega)).mono ?_; rintro e w' ⟨rfl, hb1⟩)
                | (go_at_call 71; refine (A3.out _ _ (by omega)).mono ?_; rintro e w' ⟨rfl, hb1⟩)
                | fail)
            obtain ⟨⟨y0, y1⟩, hB3⟩ := (‹(_ ∧ _) ∧ Below _ _ _›)
            go_wp2
            go_ret
            exact ⟨by rw [H.out]; rfl, hB3⟩
        · obtain rfl : b = 2 := by omega
          have H1 := Lib.hid (show knA 0 x (a + 1) = true by rw [knA_succ, hm.out, hu.out]; rfl)
          go_wp2
          go_roundw
          case rel => exact ⟨a + 1, by omega, by go_num, H1, ⟨p0, p1⟩, hB⟩
          case measure => simp [intOf]; omega
    · obtain rfl : a = 2 := by omega
      have H1 := hm.out
      go_wp2
      go_ret
      exact ⟨by rw [H1]; rfl, hB⟩

set_option maxRecDepth 100000 in
set_option maxHeartbeats 4000000 in
theorem l10Kind_1 {x : Nat} (ok : FOk 3 x 8) (w : World) :
    Calls Try.prog 68 #[.agg #[.int .i64 3, .int .i64 (x : Int)], .int .i64 1] w fun e w' => e = .returned (.bool (knA 1 x 2)) ∧ Below w.heap.size w w' := by
  obtain ⟨W1, hW1⟩ : ∃ W1, w.alloc (.cells #[.int .i64 3, .int .i64 (x : Int)] 43) = W1 := ⟨_, rfl⟩
  have p0 : W1.cell? ⟨w.heap.size, 0, none⟩ = some (.int .i64 3) := by rw [← hW1]; simp [go_sem]
  have p1 : W1.cell? ⟨w.heap.size, 1, none⟩ = some (.int .i64 (x : Int)) := by rw [← hW1]; simp [go_sem]
  have hB : Below w.heap.size w W1 := by rw [← hW1]; exact bnew _ _
  go_enter Try.func68, Try.ntmps68
  go_wp2
  clear hW1
  go_loopw [5] (fun i' wr => ∃ a : Nat, a ≤ 2 ∧ i' = .int .i64 a ∧ Hid (knA 1 x a = true) ∧ ((wr.cell? ⟨w.heap.size, 0, none⟩ = some (.int .i64 3) ∧ wr.cell? ⟨w.heap.size, 1, none⟩ = some (.int .i64 (x : Int))) ∧ Below w.heap.size w wr)) (fun i' _ => 2 - (intOf i').toNat)
  case atStart => exact ⟨0, by omega, rfl, Lib.hid rfl, ⟨p0, p1⟩, hB⟩
  case round =>
    clear p0 p1 hB
    obtain ⟨a, ha, rfl, hm, ⟨p0, p1⟩, hB⟩ := hrel
    obtain ⟨wo, rfl⟩ : ∃ wo : World, wo = wr := ⟨_, rfl⟩
    by_cases hlt : a < 2
    · have l1 : decide ((a : Int) < 2) = true := decide_eq_true (by omega)
      go_wp2
      go_loopw [6] (fun v' wr => ∃ b : Nat, b ≤ 2 ∧ v' = .int .i64 b ∧ Hid (knI 1 x a b = true) ∧ ((wr.cell? ⟨w.heap.size, 0, none⟩ = some (.int .i64 3) ∧ wr.cell? ⟨w.heap.size, 1, none⟩ = some (.int .i64 (x : Int))) ∧ Below w.heap.size w wr)) (fun v' _ => 2 - (intOf v').toNat)
      case atStart => exact ⟨0, by omega, rfl, Lib.hid rfl, ⟨p0, p1⟩, hB⟩
      case round =>
        clear p0 p1 hB
        obtain ⟨b, hb, rfl, hu, ⟨p0, p1⟩, hB⟩ := hrel
        by_cases hltb : b < 2
        · have l2 : decide ((b : Int) < 2) = true := decide_eq_true (by omega)
          have A1 := Lib.hid (l01At_to (n := 3) (x := x) (k := a + 2 * a + 4 * b) ok.hx (by omega))
          have A2 := Lib.hid (l01At_to (n := 3) (x := x) (k := a + 2 * b + 4 * a) ok.hx (by omega))
          have A3 := Lib.hid (l01At_to (n := 3) (x := x) (k := b + 2 * a + 4 * a) ok.hx (by omega))
          have HN := fun (h : knP 1 x a b = true) => Lib.hid (show knI 1 x a (b + 1) = true by rw [knI_succ, hu.out, h]; rfl)
          have HF := fun (h : knP 1 x a b = false) => Lib.hid (knA_false hlt hltb h)
          unfold knP at HN HF
          have w1 : IntKind.i64.wrap (2 * (a : Int)) = 2 * (a : Int) := wrap64_in (by omega) (by omega)
          have w2 : IntKind.i64.wrap (2 * (b : Int)) = 2 * (b : Int) := wrap64_in (by omega) (by omega)
          have w3 : IntKind.i64.wrap (4 * (a : Int)) = 4 * (a : Int) := wrap64_in (by omega) (by omega)
          have w4 : IntKind.i64.wrap (4 * (b : Int)) = 4 * (b : Int) := wrap64_in (by omega) (by omega)
          have w5 : IntKind.i64.wrap ((a : Int) + 2 * (a : Int)) = (a : Int) + 2 * (a : Int) := wrap64_in (by omega) (by omega)
          have w6 : IntKind.i64.wrap ((a : Int) + 2 * (b : Int)) = (a : Int) + 2 * (b : Int) := wrap64_in (by omega) (by omega)
          have w7 : IntKind.i64.wrap ((b : Int) + 2 * (a : Int)) = (b : Int) + 2 * (a : Int) := wrap64_in (by omega) (by omega)
          have w8 : IntKind.i64.wrap ((a : Int) + 2 * (a : Int) + 4 * (b : Int)) = (a : Int) + 2 * (a : Int) + 4 * (b : Int) := wrap64_in (by omega) (by omega)
          have w9 : IntKind.i64.wrap ((a : Int) + 2 * (b : Int) + 4 * (a : Int)) = (a : Int) + 2 * (b : Int) + 4 * (a : Int) := wrap64_in (by omega) (by omega)
          have w10 : IntKind.i64.wrap ((b : Int) + 2 * (a : Int) + 4 * (a : Int)) = (b : Int) + 2 * (a : Int) + 4 * (a : Int) := wrap64_in (by omega) (by omega)
          generalize bitN x (a + 2 * a + 4 * b) = v1 at A1 HN HF
          generalize bitN x (a + 2 * b + 4 * a) = v2 at A2 HN HF
          generalize bitN x (b + 2 * a + 4 * a) = v3 at A3 HN HF
          by_cases ev1 : v1 = b
          · by_cases ev2 : v2 = b
            · by_cases ev3 : v3 = b
              · have H := HN (by simp [ev1, ev2, ev3])
                have nv1 : ((v1 : Int) != (b : Int)) = false := by simp [ev1]
                have nv2 : ((v2 : Int) != (b : Int)) = false := by simp [ev2]
                have nv3 : ((v3 : Int) != (b : Int)) = false := by simp [ev3]
                clear HN HF hu ev1 ev2 ev3
                go_wp2
                go_region_held3 (fun w' => (w'.cell? ⟨w.heap.size, 0, none⟩ = some (.int .i64 3) ∧ w'.cell? ⟨w.heap.size, 1, none⟩ = some (.int .i64 (x : Int))) ∧ Below w.heap.size w w') (first | exact ⟨⟨p0, p1⟩, hB.drew⟩ | assumption | exact step_heldC hb1 (by assumption))
                  (first
                    | (go_at_call 71; refine (A1.out _ _ (by omega)).mono ?_; rintro e w' ⟨rfl, hb1⟩)
                    | (go_at_call 71; refine (A2.out _ _ (by omega)).mono ?_; rintro e w' ⟨rfl, hb1⟩)
                    | (go_at_call 71; refine (A3.out _ _ (by omega)).mono ?_; rintro e w' ⟨rfl, hb1⟩)
                    | fail)
                obtain ⟨⟨y0, y1⟩, hB3⟩ := (‹(_ ∧ _) ∧ Below _ _ _›)
                go_wp2
                go_roundw
                case rel => exact ⟨b + 1, by omega, by go_num, H, ⟨y0, y1⟩, hB3⟩
                case measure => simp [intOf]; omega
              · have H := HF (by simp [ev1, ev2, ev3])
                have nv1 : ((v1 : Int) != (b : Int)) = false := by simp [ev1]
                have nv2 : ((v2 : Int) != (b : Int)) = false := by simp [ev2]
                have nv3 : ((v3 : Int) != (b : Int)) = true := by simp; omega
                clear HN HF hu ev1 ev2 ev3
                go_wp2
                go_region_held3 (fun w' => (w'.cell? ⟨w.heap.size, 0, none⟩ = some (.int .i64 3) ∧ w'.cell? ⟨w.heap.size, 1, none⟩ = some (.int .i64 (x : Int))) ∧ Below w.heap.size w w') (first | exact ⟨⟨p0, p1⟩, hB.drew⟩ | assumption | exact step_heldC hb1 (by assumption))
                  (first
                    | (go_at_call 71; refine (A1.out _ _ (by omega)).mono ?_; rintro e w' ⟨rfl, hb1⟩)
                    | (go_at_call 71; refine (A2.out _ _ (by omega)).mono ?_; rintro e w' ⟨rfl, hb1⟩)
                    | (go_at_call 71; refine (A3.out _ _ (by omega)).mono ?_; rintro e w' ⟨rfl, hb1⟩)
                    | fail)
                obtain ⟨⟨y0, y1⟩, hB3⟩ := (‹(_ ∧ _) ∧ Below _ _ _›)
                go_wp2
                go_ret
                exact ⟨by rw [H.out]; rfl, hB3⟩
            · have H := HF (by simp [ev1, ev2])
              have nv1 : ((v1 : Int) != (b : Int)) = false := by simp [ev1]
              have nv2 : ((v2 : Int) != (b : Int)) = true := by simp; omega
              clear HN HF hu ev1 ev2
              go_wp2
              go_region_held3 (fun w' => (w'.cell? ⟨w.heap.size, 0, none⟩ = some (.int .i64 3) ∧ w'.cell? ⟨w.heap.size, 1, none⟩ = some (.int .i64 (x : Int))) ∧ Below w.heap.size w w') (first | exact ⟨⟨p0, p1⟩, hB.drew⟩ | assumption | exact step_heldC hb1 (by assumption))
                (first
                  | (go_at_call 71; refine (A1.out _ _ (by omega)).mono ?_; rintro e w' ⟨rfl, hb1⟩)
                  | (go_at_call 71; refine (A2.out _ _ (by omega)).mono ?_; rintro e w' ⟨rfl, hb1⟩)
                  | (go_at_call 71; refine (A3.out _ _ (by omega)).mono ?_; rintro e w' ⟨rfl, hb1⟩)
                  | fail)
              obtain ⟨⟨y0, y1⟩, hB3⟩ := (‹(_ ∧ _) ∧ Below _ _ _›)
              go_wp2
              go_ret
              exact ⟨by rw [H.out]; rfl, hB3⟩
          · have H := HF (by simp [ev1])
            have nv1 : ((v1 : Int) != (b : Int)) = true := by simp; omega
            clear HN HF hu ev1
            go_wp2
            go_region_held3 (fun w' => (w'.cell? ⟨w.heap.size, 0, none⟩ = some (.int .i64 3) ∧ w'.cell? ⟨w.heap.size, 1, none⟩ = some (.int .i64 (x : Int))) ∧ Below w.heap.size w w') (first | exact ⟨⟨p0, p1⟩, hB.drew⟩ | assumption | exact step_heldC hb1 (by assumption))
              (first
                | (go_at_call 71; refine (A1.out _ _ (by omega)).mono ?_; rintro e w' ⟨rfl, hb1⟩)
                | (go_at_call 71; refine (A2.out _ _ (by omega)).mono ?_; rintro e w' ⟨rfl, hb1⟩)
                | (go_at_call 71; refine (A3.out _ _ (by omega)).mono ?_; rintro e w' ⟨rfl, hb1⟩)
                | fail)
            obtain ⟨⟨y0, y1⟩, hB3⟩ := (‹(_ ∧ _) ∧ Below _ _ _›)
            go_wp2
            go_ret
            exact ⟨by rw [H.out]; rfl, hB3⟩
        · obtain rfl : b = 2 := by omega
          have H1 := Lib.hid (show knA 1 x (a + 1) = true by rw [knA_succ, hm.out, hu.out]; rfl)
          go_wp2
          go_roundw
          case rel => exact ⟨a + 1, by omega, by go_num, H1, ⟨p0, p1⟩, hB⟩
          case measure => simp [intOf]; omega
    · obtain rfl : a = 2 := by omega
      have H1 := hm.out
      go_wp2
      go_ret
      exact ⟨by rw [H1]; rfl, hB⟩

set_option maxRecDepth 100000 in
set_option maxHeartbeats 4000000 in
theorem l10Kind_2 {x : Nat} (ok : FOk 3 x 8) (w : World) :
    Calls Try.prog 68 #[.agg #[.int .i64 3, .int .i64 (x : Int)], .int .i64 2] w fun e w' => e = .returned (.bool (knA 2 x 2)) ∧ Below w.heap.size w w' := by
  obtain ⟨W1, hW1⟩ : ∃ W1, w.alloc (.cells #[.int .i64 3, .int .i64 (x : Int)] 43) = W1 := ⟨_, rfl⟩
  have p0 : W1.cell? ⟨w.heap.size, 0, none⟩ = some (.int .i64 3) := by rw [← hW1]; simp [go_sem]
  have p1 : W1.cell? ⟨w.heap.size, 1, none⟩ = some (.int .i64 (x : Int)) := by rw [← hW1]; simp [go_sem]
  have hB : Below w.heap.size w W1 := by rw [← hW1]; exact bnew _ _
  go_enter Try.func68, Try.ntmps68
  go_wp2
  clear hW1
  go_loopw [5] (fun i' wr => ∃ a : Nat, a ≤ 2 ∧ i' = .int .i64 a ∧ Hid (knA 2 x a = true) ∧ ((wr.cell? ⟨w.heap.size, 0, none⟩ = some (.int .i64 3) ∧ wr.cell? ⟨w.heap.size, 1, none⟩ = some (.int .i64 (x : Int))) ∧ Below w.heap.size w wr)) (fun i' _ => 2 - (intOf i').toNat)
  case atStart => exact ⟨0, by omega, rfl, Lib.hid rfl, ⟨p0, p1⟩, hB⟩
  case round =>
    clear p0 p1 hB
    obtain ⟨a, ha, rfl, hm, ⟨p0, p1⟩, hB⟩ := hrel
    obtain ⟨wo, rfl⟩ : ∃ wo : World, wo = wr := ⟨_, rfl⟩
    by_cases hlt : a < 2
    · have l1 : decide ((a : Int) < 2) = true := decide_eq_true (by omega)
      go_wp2
      go_loopw [6] (fun v' wr => ∃ b : Nat, b ≤ 2 ∧ v' = .int .i64 b ∧ Hid (knI 2 x a b = true) ∧ ((wr.cell? ⟨w.heap.size, 0, none⟩ = some (.int .i64 3) ∧ wr.cell? ⟨w.heap.size, 1, none⟩ = some (.int .i64 (x : Int))) ∧ Below w.heap.size w wr)) (fun v' _ => 2 - (intOf v').toNat)
      case atStart => exact ⟨0, by omega, rfl, Lib.hid rfl, ⟨p0, p1⟩, hB⟩
      case round =>
        clear p0 p1 hB
        obtain ⟨b, hb, rfl, hu, ⟨p0, p1⟩, hB⟩ := hrel
        by_cases hltb : b < 2
        · have l2 : decide ((b : Int) < 2) = true := decide_eq_true (by omega)
          have A1 := Lib.hid (l01At_to (n := 3) (x := x) (k := a + 2 * a + 4 * b) ok.hx (by omega))
          have A2 := Lib.hid (l01At_to (n := 3) (x := x) (k := a + 2 * b + 4 * a) ok.hx (by omega))
          have A3 := Lib.hid (l01At_to (n := 3) (x := x) (k := b + 2 * a + 4 * a) ok.hx (by omega))
          have HN := fun (h : knP 2 x a b = true) => Lib.hid (show knI 2 x a (b + 1) = true by rw [knI_succ, hu.out, h]; rfl)
          have HF := fun (h : knP 2 x a b = false) => Lib.hid (knA_false hlt hltb h)
          unfold knP at HN HF
          have w1 : IntKind.i64.wrap (2 * (a : Int)) = 2 * (a : Int) := wrap64_in (by omega) (by omega)
          have w2 : IntKind.i64.wrap (2 * (b : Int)) = 2 * (b : Int) := wrap64_in (by omega) (by omega)
          have w3 : IntKind.i64.wrap (4 * (a : Int)) = 4 * (a : Int) := wrap64_in (by omega) (by omega)
          have w4 : IntKind.i64.wrap (4 * (b : Int)) = 4 * (b : Int) := wrap64_in (by omega) (by omega)
          have w5 : IntKind.i64.wrap ((a : Int) + 2 * (a : Int)) = (a : Int) + 2 * (a : Int) := wrap64_in (by omega) (by omega)
          have w6 : IntKind.i64.wrap ((a : Int) + 2 * (b : Int)) = (a : Int) + 2 * (b : Int) := wrap64_in (by omega) (by omega)
          have w7 : IntKind.i64.wrap ((b : Int) + 2 * (a : Int)) = (b : Int) + 2 * (a : Int) := wrap64_in (by omega) (by omega)
          have w8 : IntKind.i64.wrap ((a : Int) + 2 * (a : Int) + 4 * (b : Int)) = (a : Int) + 2 * (a : Int) + 4 * (b : Int) := wrap64_in (by omega) (by omega)
          have w9 : IntKind.i64.wrap ((a : Int) + 2 * (b : Int) + 4 * (a : Int)) = (a : Int) + 2 * (b : Int) + 4 * (a : Int) := wrap64_in (by omega) (by omega)
          have w10 : IntKind.i64.wrap ((b : Int) + 2 * (a : Int) + 4 * (a : Int)) = (b : Int) + 2 * (a : Int) + 4 * (a : Int) := wrap64_in (by omega) (by omega)
          generalize bitN x (a + 2 * a + 4 * b) = v1 at A1 HN HF
          generalize bitN x (a + 2 * b + 4 * a) = v2 at A2 HN HF
          generalize bitN x (b + 2 * a + 4 * a) = v3 at A3 HN HF
          by_cases ev3 : v3 = b
          · by_cases ev1 : v1 = b
            · have H := HN (by simp [ev3, ev1])
              have nv3 : ((v3 : Int) != (b : Int)) = false := by simp [ev3]
              have nv1 : ((v1 : Int) != (b : Int)) = false := by simp [ev1]
              clear HN HF hu ev3 ev1
              go_wp2
              go_region_held3 (fun w' => (w'.cell? ⟨w.heap.size, 0, none⟩ = some (.int .i64 3) ∧ w'.cell? ⟨w.heap.size, 1, none⟩ = some (.int .i64 (x : Int))) ∧ Below w.heap.size w w') (first | exact ⟨⟨p0, p1⟩, hB.drew⟩ | assumption | exact step_heldC hb1 (by assumption))
                (first
                  | (go_at_call 71; refine (A1.out _ _ (by omega)).mono ?_; rintro e w' ⟨rfl, hb1⟩)
                  | (go_at_call 71; refine (A2.out _ _ (by omega)).mono ?_; rintro e w' ⟨rfl, hb1⟩)
                  | (go_at_call 71; refine (A3.out _ _ (by omega)).mono ?_; rintro e w' ⟨rfl, hb1⟩)
                  | fail)
              obtain ⟨⟨y0, y1⟩, hB3⟩ := (‹(_ ∧ _) ∧ Below _ _ _›)
              go_wp2
              go_roundw
              case rel => exact ⟨b + 1, by omega, by go_num, H, ⟨y0, y1⟩, hB3⟩
              case measure => simp [intOf]; omega
            · have H := HF (by simp [ev3, ev1])
              have nv3 : ((v3 : Int) != (b : Int)) = false := by simp [ev3]
              have nv1 : ((v1 : Int) != (b : Int)) = true := by simp; omega
              clear HN HF hu ev3 ev1
              go_wp2
              go_region_held3 (fun w' => (w'.cell? ⟨w.heap.size, 0, none⟩ = some (.int .i64 3) ∧ w'.cell? ⟨w.heap.size, 1, none⟩ = some (.int .i64 (x : Int))) ∧ Below w.heap.size w w') (first | exact ⟨⟨p0, p1⟩, hB.drew⟩ | assumption | exact step_heldC hb1 (by assumption))
                (first
                  | (go_at_call 71; refine (A1.out _ _ (by omega)).mono ?_; rintro e w' ⟨rfl, hb1⟩)
                  | (go_at_call 71; refine (A2.out _ _ (by omega)).mono ?_; rintro e w' ⟨rfl, hb1⟩)
                  | (go_at_call 71; refine (A3.out _ _ (by omega)).mono ?_; rintro e w' ⟨rfl, hb1⟩)
                  | fail)
              obtain ⟨⟨y0, y1⟩, hB3⟩ := (‹(_ ∧ _) ∧ Below _ _ _›)
              go_wp2
              go_ret
              exact ⟨by rw [H.out]; rfl, hB3⟩
          · have H := HF (by simp [ev3])
            have nv3 : ((v3 : Int) != (b : Int)) = true := by simp; omega
            clear HN HF hu ev3
            go_wp2
            go_region_held3 (fun w' => (w'.cell? ⟨w.heap.size, 0, none⟩ = some (.int .i64 3) ∧ w'.cell? ⟨w.heap.size, 1, none⟩ = some (.int .i64 (x : Int))) ∧ Below w.heap.size w w') (first | exact ⟨⟨p0, p1⟩, hB.drew⟩ | assumption | exact step_heldC hb1 (by assumption))
              (first
                | (go_at_call 71; refine (A1.out _ _ (by omega)).mono ?_; rintro e w' ⟨rfl, hb1⟩)
                | (go_at_call 71; refine (A2.out _ _ (by omega)).mono ?_; rintro e w' ⟨rfl, hb1⟩)
                | (go_at_call 71; refine (A3.out _ _ (by omega)).mono ?_; rintro e w' ⟨rfl, hb1⟩)
                | fail)
            obtain ⟨⟨y0, y1⟩, hB3⟩ := (‹(_ ∧ _) ∧ Below _ _ _›)
            go_wp2
            go_ret
            exact ⟨by rw [H.out]; rfl, hB3⟩
        · obtain rfl : b = 2 := by omega
          have H1 := Lib.hid (show knA 2 x (a + 1) = true by rw [knA_succ, hm.out, hu.out]; rfl)
          go_wp2
          go_roundw
          case rel => exact ⟨a + 1, by omega, by go_num, H1, ⟨p0, p1⟩, hB⟩
          case measure => simp [intOf]; omega
    · obtain rfl : a = 2 := by omega
      have H1 := hm.out
      go_wp2
      go_ret
      exact ⟨by rw [H1]; rfl, hB⟩

end Go.Proofs.Ytbdhlokbpbiijab

/- ID9:
  IsOfKind in both packages. -/
namespace Go.Proofs.Ytbdhlokbpbiijab
open Go.RowKit Go.Shelf
set_option linter.unusedVariables false
set_option linter.unusedSimpArgs false

/-- The code of one function and a kind. -/
def kcF (n b k : Int) : Int := if isF n b = true then (if inB k 0 3 = true then 0 else 2) else 1

set_option maxRecDepth 100000 in
set_option maxHeartbeats 4000000 in
theorem l10Code_one (k n b : Int) (g cap : Nat) (w : World) (c0 : w.cell? ⟨g, 0, none⟩ = some (.int .i64 n)) (c1 : w.cell? ⟨g, 1, none⟩ = some (.int .i64 b)) :
    Calls Try.prog 67 #[.int .i64 k, .slice (some ⟨g, 0, none⟩) 1 cap] w fun e w' => e = .returned (.int .i64 (kcF n b k)) ∧ Below w.heap.size w w' := by
  unfold kcF
  cases hf : isF n b
  · rw [if_neg (by decide)]
    go_enter Try.func67, Try.ntmps67
    go_wp2
    refine wp_loop_rounds 1 ?_
    rw [rounds_succ]
    go_wp2_with (go_at_call 61; refine (l01Is_is hf _).mono ?_; rintro e w2 ⟨rfl, hb2⟩)
    go_ret
    exact ⟨rfl, hb2⟩
  · rw [if_pos rfl]
    go_enter Try.func67, Try.ntmps67
    go_wp2
    go_loopw [5] (fun i' wr => ∃ i : Nat, i ≤ 1 ∧ i' = .int .i64 i ∧ (wr.cell? ⟨g, 0, none⟩ = some (.int .i64 n) ∧ wr.cell? ⟨g, 1, none⟩ = some (.int .i64 b)) ∧ Below w.heap.size w wr) (fun i' _ => 1 - (intOf i').toNat)
    case atStart => exact ⟨0, by omega, rfl, ⟨c0, c1⟩, Below.refl _ _⟩
    case round =>
      clear c0 c1
      obtain ⟨i, hi, rfl, ⟨c0, c1⟩, hB⟩ := hrel
      rcases (show i = 0 ∨ i = 1 by omega) with rfl | rfl
      · go_wp2_with (go_at_call 61; refine (l01Is_is hf _).mono ?_; rintro e w2 ⟨rfl, hb2⟩; have d0 := kc hb2 c0; have d1 := kc hb2 c1)
        go_roundw
        case rel => exact ⟨1, by omega, by go_num, ⟨d0, d1⟩, bthen hB hb2⟩
        case measure => simp [intOf]
      · cases hk : inB k 0 3
        · go_wp2_with (go_at_call 49; refine (l01In_is hk _).mono ?_; rintro e w' ⟨rfl, rfl⟩)
          all_goals go_ret
          all_goals exact ⟨rfl, hB⟩
        · go_wp2_with (go_at_call 49; refine (l01In_is hk _).mono ?_; rintro e w' ⟨rfl, rfl⟩)
          go_ret
          exact ⟨rfl, hB⟩

set_option maxRecDepth 100000 in
set_option maxHeartbeats 4000000 in
theorem specIsOfKind_no {n b k c : Int} (hc : kcF n b k = c) (h0 : c ≠ 0) (w : World) :
    Calls Try.prog 28 #[.agg #[.int .i64 n, .int .i64 b], .int .i64 k] w fun e w' => e = .returned (.tuple #[.bool false, .int .i64 c]) ∧ Below w.heap.size w w' := by
  obtain ⟨W1, hW1⟩ : ∃ W1, w.alloc (.cells #[.int .i64 n, .int .i64 b] 43) = W1 := ⟨_, rfl⟩
  have p0 : W1.cell? ⟨w.heap.size, 0, none⟩ = some (.int .i64 n) := by rw [← hW1]; simp [go_sem]
  have p1 : W1.cell? ⟨w.heap.size, 1, none⟩ = some (.int .i64 b) := by rw [← hW1]; simp [go_sem]
  have hB : Below w.heap.size w W1 := by rw [← hW1]; exact bnew _ _
  have hne : (c != 0) = true := by simpa using h0
  have CD := Lib.hid (hc ▸ l10Code_one k n b W1.heap.size 1 (W1.alloc (.cells #[.int .i64 n, .int .i64 b] 43)) (by simp [go_sem]) (by simp [go_sem]))
  clear hc h0
  go_enter Try.func28, Try.ntmps28
  go_wp2_with (go_at_call 67; refine (CD.out).mono ?_; rintro e w2 ⟨rfl, hb2⟩)
  go_ret2
  exact ⟨rfl, bthen (balloc hB _) hb2⟩

set_option maxRecDepth 100000 in
set_option maxHeartbeats 4000000 in
theorem specIsOfKind_yes {n : Int} {x R : Nat} (ok : FOk n x R) {k : Nat} (hc : kcF n (x : Int) (k : Int) = 0) {v : Bool} (hv : ∀ w, Calls Try.prog 68 #[.agg #[.int .i64 n, .int .i64 (x : Int)], .int .i64 (k : Int)] w fun e w' => e = .returned (.bool v) ∧ Below w.heap.size w w') (w : World) :
    Calls Try.prog 28 #[.agg #[.int .i64 n, .int .i64 (x : Int)], .int .i64 (k : Int)] w fun e w' => e = .returned (.tuple #[.bool v, .int .i64 0]) ∧ Below w.heap.size w w' := by
  obtain ⟨W1, hW1⟩ : ∃ W1, w.alloc (.cells #[.int .i64 n, .int .i64 (x : Int)] 43) = W1 := ⟨_, rfl⟩
  have p0 : W1.cell? ⟨w.heap.size, 0, none⟩ = some (.int .i64 n) := by rw [← hW1]; simp [go_sem]
  have p1 : W1.cell? ⟨w.heap.size, 1, none⟩ = some (.int .i64 (x : Int)) := by rw [← hW1]; simp [go_sem]
  have hB : Below w.heap.size w W1 := by rw [← hW1]; exact bnew _ _
  have HV := Lib.hid hv
  have CD := Lib.hid (hc ▸ l10Code_one (k : Int) n (x : Int) W1.heap.size 1 (W1.alloc (.cells #[.int .i64 n, .int .i64 (x : Int)] 43)) (by simp [go_sem]) (by simp [go_sem]))
  have hB1 := balloc hB (.cells #[.int .i64 n, .int .i64 (x : Int)] 43)
  clear hc hv
  go_enter Try.func28, Try.ntmps28
  go_wp2_with (first
    | (go_at_call 67; refine (CD.out).mono ?_; rintro e w2 ⟨rfl, hb2⟩; have q0 := kc (bthen (bnew _ _) hb2) p0; have q1 := kc (bthen (bnew _ _) hb2) p1; have hB2 := bthen hB1 hb2)
    | (go_at_call 68; refine (HV.out _).mono ?_; rintro e w3 ⟨rfl, hb3⟩))
  go_ret2
  exact ⟨rfl, bthen hB2 hb3⟩

set_option maxRecDepth 100000 in
set_option maxHeartbeats 4000000 in
theorem isKind_any (k : Int) (w : World) :
    Calls Try.prog 69 #[.int .i64 k] w fun e w' => e = .returned (.bool (inB k 0 3)) ∧ w = w' := by
  by_cases h1 : 0 ≤ k
  · by_cases h2 : k ≤ 3
    · rw [inB_true h1 h2]
      have h3 : decide (k < 4) = true := decide_eq_true (by omega)
      go_enter Try.func69, Try.ntmps69
      go_wp2
      go_ret
      exact ⟨rfl, rfl⟩
    · rw [inB_false (by omega)]
      have h3 : decide (k < 4) = false := decide_eq_false (by omega)
      go_enter Try.func69, Try.ntmps69
      go_wp2
      go_ret
      exact ⟨rfl, rfl⟩
  · rw [inB_false (by omega)]
    go_enter Try.func69, Try.ntmps69
    go_wp2
    go_ret
    exact ⟨rfl, rfl⟩
theorem isKind_is {k : Int} {x : Bool} (h : inB k 0 3 = x) (w : World) :
    Calls Try.prog 69 #[.int .i64 k] w fun e w' => e = .returned (.bool x) ∧ w = w' := h ▸ isKind_any k w

set_option maxRecDepth 100000 in
set_option maxHeartbeats 4000000 in
theorem implIsOfKind_no {n b : Int} (h : isF n b = false) (k : Int) (w : World) :
    Calls Try.prog 29 #[.agg #[.int .i64 n, .int .i64 b], .int .i64 k] w fun e w' => e = .returned (.tuple #[.bool false, .int .i64 1]) ∧ Below w.heap.size w w' := by
  go_enter Try.func29, Try.ntmps29
  go_wp2_with (go_at_call 63; refine (IsFunc_is h _).mono ?_; rintro e w2 ⟨rfl, hb2⟩)
  go_ret2
  exact ⟨rfl, bthen (bnew _ _) hb2⟩

set_option maxRecDepth 100000 in
set_option maxHeartbeats 4000000 in
theorem implIsOfKind_range {n b : Int} (h : isF n b = true) {k : Int} (hk : inB k 0 3 = false) (w : World) :
    Calls Try.prog 29 #[.agg #[.int .i64 n, .int .i64 b], .int .i64 k] w fun e w' => e = .returned (.tuple #[.bool false, .int .i64 2]) ∧ Below w.heap.size w w' := by
  go_enter Try.func29, Try.ntmps29
  go_wp2_with (first
    | (go_at_call 63; refine (IsFunc_is h _).mono ?_; rintro e w2 ⟨rfl, hb2⟩)
    | (go_at_call 69; refine (isKind_is hk _).mono ?_; rintro e w' ⟨rfl, rfl⟩))
  go_ret2
  exact ⟨rfl, bthen (bnew _ _) hb2⟩

set_option maxRecDepth 100000 in
set_option maxHeartbeats 4000000 in
theorem implIsOfKind_yes {n : Int} {x R : Nat} (ok : FOk n x R) {k : Nat} (hk4 : k < 4) (w : World) :
    Calls Try.prog 29 #[.agg #[.int .i64 n, .int .i64 (x : Int)], .int .i64 (k : Int)] w fun e w' => e = .returned (.tuple #[.bool (kdB n x R k), .int .i64 0]) ∧ Below w.heap.size w w' := by
  have h := ok.is
  have hk : inB (k : Int) 0 3 = true := inB_true (by omega) (by omega)
  have KD := Lib.hid (fun W => isOfKind_any ok k hk4 W)
  generalize kdB n x R k = kb at KD ⊢
  obtain ⟨W1, hW1⟩ : ∃ W1, w.alloc (.cells #[.int .i64 n, .int .i64 (x : Int)] 43) = W1 := ⟨_, rfl⟩
  have p0 : W1.cell? ⟨w.heap.size, 0, none⟩ = some (.int .i64 n) := by rw [← hW1]; simp [go_sem]
  have p1 : W1.cell? ⟨w.heap.size, 1, none⟩ = some (.int .i64 (x : Int)) := by rw [← hW1]; simp [go_sem]
  have hB : Below w.heap.size w W1 := by rw [← hW1]; exact bnew _ _
  go_enter Try.func29, Try.ntmps29
  go_wp2_with (first
    | (go_at_call 63; refine (IsFunc_is h _).mono ?_; rintro e w2 ⟨rfl, hb2⟩; have q0 := kc hb2 p0; have q1 := kc hb2 p1; have hB2 := bthen hB hb2; clear p0 p1)
    | (go_at_call 69; refine (isKind_is hk _).mono ?_; rintro e w' ⟨rfl, rfl⟩)
    | (go_at_call 70; refine (KD.out _).mono ?_; rintro e w3 ⟨rfl, hb3⟩))
  go_ret2
  exact ⟨rfl, bthen hB2 hb3⟩

theorem l10Kind_any {n : Int} {x R : Nat} (ok : FOk n x R) (k : Nat) (hk : k < 4) (w : World) :
    Calls Try.prog 68 #[.agg #[.int .i64 n, .int .i64 (x : Int)], .int .i64 (k : Int)] w fun e w' => e = .returned (.bool (kdB n x R k)) ∧ Below w.heap.size w w' := by
  by_cases hn : n = 3
  · subst hn
    obtain rfl : R = 8 := by rw [ok.he]; rfl
    have hx : x < 256 := ok.hB
    rcases (show k = 0 ∨ k = 1 ∨ k = 2 ∨ k = 3 by omega) with rfl | rfl | rfl | rfl
    · rw [kdB_kn (by decide) hx]; exact l10Kind_0 ok w
    · rw [kdB_kn (by decide) hx]; exact l10Kind_1 ok w
    · rw [kdB_kn (by decide) hx]; exact l10Kind_2 ok w
    · exact l10Kind_3 ok w
  · rw [kdB_other hn]
    exact l10Kind_other ok hn _ w
theorem bothIsOfKind (n b k : Int) (_ : (Lit.int .i64 n).wf = true) (_ : (Lit.int .i64 b).wf = true) (_ : (Lit.int .i64 k).wf = true) : ∃ (rx : Bool) (rc : Int),
    (∀ w, Calls Try.prog 28 #[.agg #[.int .i64 n, .int .i64 b], .int .i64 k] w fun e w' => e = .returned (.tuple #[.bool rx, .int .i64 rc]) ∧ Below w.heap.size w w') ∧
    (∀ w, Calls Try.prog 29 #[.agg #[.int .i64 n, .int .i64 b], .int .i64 k] w fun e w' => e = .returned (.tuple #[.bool rx, .int .i64 rc]) ∧ Below w.heap.size w w') := by
  cases h : isF n b
  · exact ⟨_, _, specIsOfKind_no (c := 1) (by unfold kcF; rw [h]; rfl) (by decide), implIsOfKind_no h k⟩
  · cases hk : inB k 0 3
    · exact ⟨_, _, specIsOfKind_no (c := 2) (by unfold kcF; rw [h, hk]; rfl) (by decide), implIsOfKind_range h hk⟩
    · have hk2 : 0 ≤ k ∧ k ≤ 3 := by simpa [inB] using hk
      obtain ⟨j, rfl⟩ := Int.eq_ofNat_of_zero_le hk2.1
      obtain ⟨x, R, rfl, ok⟩ := fok h
      exact ⟨_, _, specIsOfKind_yes ok (by unfold kcF; rw [h, hk]; rfl) (l10Kind_any ok j (by omega)), implIsOfKind_yes ok (by omega)⟩
end Go.Proofs.Ytbdhlokbpbiijab

/- FIsOfKind:
  The walk of the law on IsOfKind: both packages answer alike. -/
namespace Go.Proofs.Ytbdhlokbpbiijab
open Go.RowKit

set_option maxRecDepth 100000 in
set_option maxHeartbeats 2000000 in
theorem fnExactIsOfKind_walk (n0 : Int) (b0 : Int) (a1 : Int) (w : World) (wn0 : (Lit.int .i64 n0).wf = true) (wb0 : (Lit.int .i64 b0).wf = true) (wa1 : (Lit.int .i64 a1).wf = true) :
    Calls Try.prog 6 #[.agg #[.int .i64 n0, .int .i64 b0], .int .i64 a1] w fun e w' => e = .returned (.bool true) ∧ Below w.heap.size w w' := by
  obtain ⟨rx, rc, c1, c2⟩ := bothIsOfKind n0 b0 a1 wn0 wb0 wa1
  have C1 := Lib.hid c1
  have C2 := Lib.hid c2
  clear c1 c2 wn0 wb0 wa1
  have hB := Below.refl w.heap.size w
  go_enter Try.func6, Try.ntmps6
  have hB := balloc hB (.cells #[.int .i64 n0, .int .i64 b0] 40)
  go_wp2_with fail
  refine (toFunc_any n0 b0 _).mono ?_
  rintro e w1 ⟨rfl, hb1⟩
  have hB := bthen hB hb1
  obtain ⟨hc1, hf1⟩ := bcell hb1
  have l1_0 : w.heap.size < w1.heap.size := by have := hb1.size; (try simp at this); omega
  go_wp2_with fail
  refine (C1.out _).mono ?_
  rintro e w2 ⟨rfl, hb2⟩
  have hB := bthen hB hb2
  obtain ⟨hc2, hf2⟩ := bcell hb2
  have l2_0 : w.heap.size < w2.heap.size := by have := hb2.size; (try simp at this); omega
  go_wp2_with fail
  refine (toFunc_any n0 b0 _).mono ?_
  rintro e w3 ⟨rfl, hb3⟩
  have hB := bthen hB hb3
  obtain ⟨hc3, hf3⟩ := bcell hb3
  have l3_0 : w.heap.size < w3.heap.size := by have := hb3.size; (try simp at this); omega
  go_wp2_with fail
  refine (C2.out _).mono ?_
  rintro e w4 ⟨rfl, hb4⟩
  have hB := bthen hB hb4
  obtain ⟨hc4, hf4⟩ := bcell hb4
  have l4_0 : w.heap.size < w4.heap.size := by have := hb4.size; (try simp at this); omega
  go_wp2
  go_ret
  exact ⟨rfl, hB⟩
end Go.Proofs.Ytbdhlokbpbiijab
