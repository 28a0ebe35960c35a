/-
  The texts MO2, C1, C2, L3, IR, MO4, MO3, CT1, CT2, M1, M2, M4, MO5, K9, KIn, M3, KSh, KCo, MO6, Z4, Z5 in one.
-/
import Derived.Test.YtbdhlokbpbiijaaMPFnIdentities2
import Derived.Deep.SlicePairs
import Derived.WalkMore
import Derived.ScopeJumps

/- MO2:
  Chapter 7 of the model: monotone functions, ends of rows. -/
namespace Go.Proofs.Ytbdhlokbpbiijaa
open Go.RowKit
set_option linter.unusedVariables false
set_option linter.unusedSimpArgs false

/-- Natural numbers as a list of numbers. -/
def nL (l : List Nat) : List Int := l.map fun (j : Nat) => (j : Int)
theorem nL_snoc (l : List Nat) (a : Nat) : nL (l ++ [a]) = nL l ++ [(a : Int)] := by simp [nL]
theorem nL_length (l : List Nat) : (nL l).length = l.length := by simp [nL]
theorem nL_get (l : List Nat) (j : Nat) (h : j < l.length) : (nL l)[j]?.getD 0 = (l[j]?.getD 0 : Nat) := by simp [nL, h]

/-- No fall at row i by the variables below k. -/
def monTo (x i k : Nat) : Bool := allLt k fun v => mon1 x i v
theorem monTo_succ (x i k : Nat) : monTo x i (k + 1) = (monTo x i k && mon1 x i k) := allLt_succ _ _
theorem mon_rows {n x R : Nat} (hn : n ≤ 4) (hR : R ≤ 16) : upRows n x R = allLt R fun i => monTo x i n := by
  rw [Bool.eq_iff_iff]
  unfold upRows upTo monTo
  constructor
  · intro h
    rw [allLt_iff]
    intro i hi
    rw [allLt_iff]
    intro v hv
    rw [mon1_up (by omega) (by omega)]
    exact allLt_iff.1 (allLt_iff.1 h i hi) v hv
  · intro h
    rw [allLt_iff]
    intro i hi
    rw [allLt_iff]
    intro v hv
    rw [← mon1_up (by omega) (by omega)]
    exact allLt_iff.1 (allLt_iff.1 h i hi) v hv
def monRows (n x j : Nat) : Bool := allLt j fun i => monTo x i n
theorem monRows_succ (n x j : Nat) : monRows n x (j + 1) = (monRows n x j && monTo x j n) := allLt_succ _ _
theorem monRows_false {n x i k m : Nat} (hi : i < m) (hk : k < n) (h : mon1 x i k = false) : monRows n x m = false := by
  cases hc : monRows n x m
  · rfl
  · have := allLt_iff.1 (allLt_iff.1 hc i hi) k hk
    rw [h] at this
    cases this

set_option maxRecDepth 100000 in
set_option maxHeartbeats 4000000 in
theorem l07Monotone_any {n : Int} {x R : Nat} (ok : FOk n x R) (w : World) :
    Calls Try.prog 110 #[.agg #[.int .i64 n, .int .i64 (x : Int)]] w fun e w' => e = .returned (.bool (cls3 n.toNat x R)) ∧ Below w.heap.size w w' := by
  have r0 := ok.r0
  have r16 := ok.r16
  have h4 := ok.h4
  have h0 := ok.h0
  have e3 : cls3 n.toNat x R = monRows n.toNat x R := mon_rows (by omega) r16
  rw [e3]
  clear e3
  have RWS := Lib.hid (fun W => l01Rows_is ok.h0 ok.h4 ok.hR W)
  obtain ⟨W1, hW1⟩ : ∃ W1, w.alloc (.cells #[.int .i64 n, .int .i64 (x : Int)] 25) = W1 := ⟨_, rfl⟩
  have p0 : W1.cell? ⟨w.heap.size, 0, none⟩ = some (.int .i64 n) := by rw [← hW1]; simp [go_sem]
  have p1 : W1.cell? ⟨w.heap.size, 1, none⟩ = some (.int .i64 (x : Int)) := by rw [← hW1]; simp [go_sem]
  have hB : Below w.heap.size w W1 := by rw [← hW1]; exact bnew _ _
  go_enter Try.func110, Try.ntmps110
  go_wp2_with fail
  clear hW1
  go_loopw [3] (fun i' wr => ∃ i : Nat, i ≤ R ∧ i' = .int .i64 i ∧ Hid (monRows n.toNat x i = true) ∧ ((wr.cell? ⟨w.heap.size, 0, none⟩ = some (.int .i64 n) ∧ wr.cell? ⟨w.heap.size, 1, none⟩ = some (.int .i64 (x : Int))) ∧ Below w.heap.size w wr))
    (fun i' _ => R - (intOf i').toNat)
  case atStart => exact ⟨0, by omega, rfl, Lib.hid rfl, ⟨p0, p1⟩, hB⟩
  case round =>
    clear p0 p1 hB
    obtain ⟨i, hi, rfl, hm, ⟨p0, p1⟩, hB⟩ := hrel
    obtain ⟨wo, rfl⟩ : ∃ wo : World, wo = wr := ⟨_, rfl⟩
    by_cases hlt : i < R
    · go_wp2_with (go_at_call 116; refine (RWS.out _).mono ?_; rintro e w' ⟨rfl, rfl⟩)
      go_loopw [4] (fun v' wr => ∃ k : Nat, (k : Int) ≤ n ∧ v' = .int .i64 k ∧ Hid (monTo x i k = true) ∧ ((wr.cell? ⟨w.heap.size, 0, none⟩ = some (.int .i64 n) ∧ wr.cell? ⟨w.heap.size, 1, none⟩ = some (.int .i64 (x : Int))) ∧ Below w.heap.size w wr))
        (fun v' _ => (n - intOf v').toNat)
      case atStart => exact ⟨0, by omega, rfl, Lib.hid rfl, ⟨p0, p1⟩, hB⟩
      case round =>
        clear p0 p1 hB
        obtain ⟨k, hk, rfl, hu, ⟨p0, p1⟩, hB⟩ := hrel
        by_cases hltk : (k : Int) < n
        · obtain ⟨hw, hI⟩ := pow_bits k (by omega)
          obtain ⟨_, ho, _, ho16, _⟩ := hI i (by omega)
          clear hI
          have ek : IntKind.u64.wrap (k : Int) = (k : Int) := by simp [IntKind.wrap, IntKind.bits, IntKind.signed]; omega
          generalize hp : (2 : Nat) ^ k = P at hw ho ho16
          have HP := Lib.hid hp
          clear hp
          have hI := bitI_nat x i
          have hJ := bitI_nat x (i ||| P)
          cases hb2 : bitN x i == 1
          · have ht : ((bitI x (i : Int) : Int) == 1) = false := by rw [hI]; have := bitN_le x i; simp at hb2 ⊢; omega
            have HU := Lib.hid (show monTo x i (k + 1) = true by rw [monTo_succ, hu.out]; simp [mon1, hb2])
            clear hb2 hI hJ
            go_wp2_with (go_at_call 115; refine (l01At_int ok _ (by omega) (by omega) _).mono ?_; rintro e w' ⟨rfl, hb⟩)
            have q0 := kc hb p0
            have q1 := kc hb p1
            go_roundw
            case rel => exact ⟨k + 1, by omega, by go_num, HU, ⟨q0, q1⟩, bthen hB hb⟩
            case measure => simp [intOf]; omega
          · have ht : ((bitI x (i : Int) : Int) == 1) = true := by rw [hI]; simp at hb2 ⊢; omega
            cases hb3 : bitN x (i ||| P) == 0
            · have ht2 : ((bitI x ((i ||| P : Nat) : Int) : Int) == 0) = false := by rw [hJ]; simp at hb3 ⊢; omega
              have HU := Lib.hid (show monTo x i (k + 1) = true by rw [monTo_succ, hu.out]; simp [mon1, HP.out, hb3])
              clear hb2 hb3 hI hJ
              go_wp2_with fail
              refine (l01At_int ok _ (by omega) (by omega) _).mono ?_
              rintro e w2 ⟨rfl, hb⟩
              have q0 := kc hb p0
              have q1 := kc hb p1
              have hB2 := bthen hB hb
              clear p0 p1 hB
              go_wp2_with fail
              refine (l01At_int ok _ (by omega) (by omega) _).mono ?_
              rintro e w3 ⟨rfl, hb⟩
              have r0 := kc hb q0
              have r1 := kc hb q1
              have hB3 := bthen hB2 hb
              clear q0 q1 hB2
              go_wp2
              go_roundw
              case rel => exact ⟨k + 1, by omega, by go_num, HU, ⟨r0, r1⟩, hB3⟩
              case measure => simp [intOf]; omega
            · have ht2 : ((bitI x ((i ||| P : Nat) : Int) : Int) == 0) = true := by rw [hJ]; simp at hb3 ⊢; omega
              have HU := Lib.hid (monRows_false (n := n.toNat) (m := R) hlt (k := k) (x := x) (by omega) (by simp [mon1, HP.out, hb2, hb3]))
              clear hb2 hb3 hI hJ
              go_wp2_with fail
              refine (l01At_int ok _ (by omega) (by omega) _).mono ?_
              rintro e w2 ⟨rfl, hb⟩
              have q0 := kc hb p0
              have q1 := kc hb p1
              have hB2 := bthen hB hb
              clear p0 p1 hB
              go_wp2_with fail
              refine (l01At_int ok _ (by omega) (by omega) _).mono ?_
              rintro e w3 ⟨rfl, hb⟩
              have r0 := kc hb q0
              have r1 := kc hb q1
              have hB3 := bthen hB2 hb
              clear q0 q1 hB2
              go_wp2
              go_ret
              exact ⟨by rw [HU.out]; rfl, hB3⟩
        · obtain hkn : n.toNat = k := by omega
          have HU := Lib.hid (show monRows n.toNat x (i + 1) = true by rw [monRows_succ, hm.out, hkn, hu.out]; rfl)
          clear hkn
          go_wp2
          go_roundw
          case rel => exact ⟨i + 1, by omega, by go_num, HU, ⟨p0, p1⟩, hB⟩
          case measure => simp [intOf]; omega
    · obtain rfl : i = R := by omega
      go_wp2_with (go_at_call 116; refine (RWS.out _).mono ?_; rintro e w' ⟨rfl, rfl⟩)
      go_ret
      exact ⟨by rw [hm.out]; rfl, hB⟩

/-- What the search for an end knows behind k rows. -/
def endTo (x v r : Nat) (lst : Bool) (k : Nat) : Bool := bitN x r == v && allLt k (okV x v r lst)
theorem endTo_succ (x v r : Nat) (lst : Bool) (k : Nat) : endTo x v r lst (k + 1) = (endTo x v r lst k && okV x v r lst k) := by unfold endTo; rw [allLt_succ, Bool.and_assoc]
theorem endTo_all (x R v r : Nat) (lst : Bool) : endTo x v r lst R = endV x R v lst r := rfl
theorem endTo_false {x v r : Nat} {lst : Bool} {k R : Nat} (hk : k ≤ R) (h : endTo x v r lst k = false) : endV x R v lst r = false := by
  cases hc : endV x R v lst r
  · rfl
  · unfold endV at hc
    rw [Bool.and_eq_true] at hc
    unfold endTo at h
    rw [hc.1, Bool.true_and] at h
    have : allLt k (okV x v r lst) = true := by
      rw [allLt_iff]
      intro i hi
      exact allLt_iff.1 hc.2 i (by omega)
    rw [this] at h
    cases h
theorem endsL_yes {x R v : Nat} {lst : Bool} {k : Nat} (h : endV x R v lst k = true) : endsL x R v lst (k + 1) = endsL x R v lst k ++ [k] := by rw [endsL_succ, h]; rfl
theorem endsL_no {x R v : Nat} {lst : Bool} {k : Nat} (h : endV x R v lst k = false) : endsL x R v lst (k + 1) = endsL x R v lst k := by rw [endsL_succ, h]; simp
end Go.Proofs.Ytbdhlokbpbiijaa

/- C1:
  ProjectionOf in both packages. -/
namespace Go.Proofs.Ytbdhlokbpbiijaa
open Go.RowKit

set_option maxRecDepth 100000 in
set_option maxHeartbeats 2000000 in
theorem l01Projection_any {n : Int} {R : Nat} (h0 : 0 ≤ n) (h4 : n ≤ 4) (r0 : 0 < R) (r16 : R ≤ 16) (hR : Hid (rowsN n = (R : Int))) (i : Nat) (hi16 : i < 16) (w : World) :
    Calls Try.prog 177 #[.int .i64 n, .int .i64 (i : Int)] w fun e w' => e = .returned (.agg #[.int .i64 n, .int .i64 (sumN (fun r => bitN r i) R : Int)]) ∧ Below w.heap.size w w' := by
  obtain ⟨i0, hi, hz0, hz1, hz2⟩ := info_parts infoI
  go_enter Try.func177, Try.ntmps177
  go_wp2
  obtain ⟨W1, hW1⟩ : ∃ W1, w.alloc (.cells #[.int .i64 0, .int .i64 0] 25) = W1 := ⟨_, rfl⟩
  have hs1 : W1.heap.size = w.heap.size + 1 := by rw [← hW1]; simp
  have c00 : W1.cell? ⟨w.heap.size, 0, none⟩ = some (.int .i64 0) := by rw [← hW1]; simp [go_sem]
  have c01 : W1.cell? ⟨w.heap.size, 1, none⟩ = some (.int .i64 0) := by rw [← hW1]; simp [go_sem]
  have f00 : W1.frozen? ⟨w.heap.size, 0, none⟩ = false := by rw [← hW1]; simp [go_sem]
  have f01 : W1.frozen? ⟨w.heap.size, 1, none⟩ = false := by rw [← hW1]; simp [go_sem]
  have hB1 : Below w.heap.size w W1 := by rw [← hW1]; exact bnew _ _
  rw [hW1]
  clear hW1
  go_loopw [5, 6] (fun s i' wr => ∃ k : Nat, k ≤ R ∧ i' = .int .i64 k ∧ wr.ownsRow W1.heap.size 2 1 s k (valsN (fun r => bitN r i) k) ∧ Below W1.heap.size W1 wr)
    (fun _ i' _ => R - (intOf i').toNat)
  case atStart => exact ⟨0, Nat.zero_le _, rfl, by rw [← hs1]; exact World.ownsRow_lit W1 #[] 0 (Nat.le_refl _) (by decide) rfl, bnew _ _⟩
  case round =>
    obtain ⟨k, hk, rfl, hown, hN⟩ := hrel
    have hsz := hN.size
    have hE := Lib.hid hs1
    clear hs1
    by_cases hlt : k < R
    · have E := digit_eq k i (by omega)
      go_wp2_with (first
        | (go_at_call 116; refine (l01Rows_is h0 h4 hR _).mono ?_; rintro e w' ⟨rfl, rfl⟩)
        | (at_builtin; refine wpList_append_own _ rfl _ _ 27 rfl W1.heap.size 2 i0 (.int .i64 0) 1 8 Try.underlying27 hi hz0 hz1 hz2 rfl (by decide) _ _ _ rfl (hown.alloc _) ⟨wr.heap.size, 0, none⟩ 1 1 [.int .i64 (bitN k i : Int)] rfl rfl (cell_one_new _ _ _) (one_cell_int _) (by unfold maxLen; omega) (by omega) (by simp; omega) ?_))
      intro v' w1 hown' hgrow _
      have hN' := (balloc hN (.cells #[.int .i64 (bitN k i : Int)] 2)).grown hgrow (by simp; omega) (fun j e => (hown.lt j e).1)
      clear hgrow hown hN E
      go_wp2
      go_roundw
      case rel => exact ⟨k + 1, by omega, by go_num, by rw [valsN_succ]; exact hown', hN'⟩
      case measure => simp [intOf]; omega
    · obtain rfl : k = R := by omega
      obtain ⟨g, cap, rfl, hg, hc⟩ := owned_slice r0 hown
      have d00 := (hN.cell (p := ⟨w.heap.size, 0, none⟩) (by rw [hE.out]; simp)).trans c00
      have d01 := (hN.cell (p := ⟨w.heap.size, 1, none⟩) (by rw [hE.out]; simp)).trans c01
      have g00 := (hN.frozen (p := ⟨w.heap.size, 0, none⟩) (by rw [hE.out]; simp)).trans f00
      have g01 := (hN.frozen (p := ⟨w.heap.size, 1, none⟩) (by rw [hE.out]; simp)).trans f01
      have hB2 := bthen hB1 hN
      clear hown hN c00 c01 f00 f01 hB1
      go_wp2_with (first
        | (go_at_call 116; refine (l01Rows_is h0 h4 hR _).mono ?_; rintro e w' ⟨rfl, rfl⟩)
        | (go_at_call 168; refine (l01Of_any h0 h4 r0 r16 hR g cap (fun r => bitN r i) (fun r _ => bitN_le r i) _ hg hc).mono ?_; rintro e w3 ⟨rfl, hb3⟩; have e00 := kc hb3 d00; have e01 := kc hb3 d01; have k00 := kf hb3 d00 g00; have k01 := kf hb3 d01 g01; have hB3 := bthen hB2 hb3))
      exact bodyPost_ret (v := .agg #[.int .i64 n, .int .i64 (sumN (fun r => bitN r i) k : Int)]) (by simp [results, Try.results177, go_sem, e00, e01]) rfl ⟨rfl, (hB3.setCell (p := ⟨w.heap.size, 0, none⟩) (by simp) _).setCell (p := ⟨w.heap.size, 1, none⟩) (by simp) _⟩
set_option maxHeartbeats 400000 in
theorem isVariable_any (n i : Int) (w : World) :
    Calls Try.prog 98 #[.int .i64 n, .int .i64 i] w fun e w' => e = .returned (.bool (inB i 0 (n - 1))) ∧ w = w' := by
  by_cases h1 : 0 ≤ i
  · by_cases h2 : i < n
    · rw [inB_true h1 (by omega)]
      go_enter Try.func98, Try.ntmps98
      go_wp2
      go_ret
      exact ⟨rfl, rfl⟩
    · rw [inB_false (by omega)]
      go_enter Try.func98, Try.ntmps98
      go_wp2
      go_ret
      exact ⟨rfl, rfl⟩
  · rw [inB_false (by omega)]
    go_enter Try.func98, Try.ntmps98
    go_wp2
    go_ret
    exact ⟨rfl, rfl⟩
theorem isVariable_is {n i : Int} {x : Bool} (h : inB i 0 (n - 1) = x) (w : World) :
    Calls Try.prog 98 #[.int .i64 n, .int .i64 i] w fun e w' => e = .returned (.bool x) ∧ w = w' := h ▸ isVariable_any n i w

end Go.Proofs.Ytbdhlokbpbiijaa

/- C2:
  ConstantOf in both packages. -/
namespace Go.Proofs.Ytbdhlokbpbiijaa
open Go.RowKit

set_option maxHeartbeats 400000 in
theorem isDigit_any (v : Int) (w : World) :
    Calls Try.prog 173 #[.int .i64 v] w fun e w' => e = .returned (.bool (inB v 0 1)) ∧ w = w' := by
  by_cases h1 : v = 0
  · subst h1
    rw [inB_true (by omega) (by omega)]
    go_enter Try.func173, Try.ntmps173
    go_wp2
    go_ret
    exact ⟨rfl, rfl⟩
  · have e0 : (v == 0) = false := by simp [h1]
    by_cases h2 : v = 1
    · subst h2
      rw [inB_true (by omega) (by omega)]
      go_enter Try.func173, Try.ntmps173
      go_wp2
      go_ret
      exact ⟨rfl, rfl⟩
    · have e1 : (v == 1) = false := by simp [h2]
      rw [inB_false (by omega)]
      go_enter Try.func173, Try.ntmps173
      go_wp2
      go_ret
      exact ⟨rfl, rfl⟩
theorem isDigit_is {v : Int} {x : Bool} (h : inB v 0 1 = x) (w : World) :
    Calls Try.prog 173 #[.int .i64 v] w fun e w' => e = .returned (.bool x) ∧ w = w' := h ▸ isDigit_any v w

set_option maxHeartbeats 400000 in
theorem Constant1_any (b r : Nat) (v : Int) (w : World) (hc : w.cell? ⟨b, 0, none⟩ = some (.int .i64 v)) :
    Calls Try.prog 270 #[.int .i64 (r : Int), .pointer (some ⟨b, 0, none⟩)] w fun e w' => e = .returned (.int .i64 v) ∧ Below w.heap.size w w' := by
  go_enter Try.func270, Try.ntmps270
  go_wp2
  go_ret
  exact ⟨rfl, Below.refl _ _⟩

set_option maxRecDepth 100000 in
set_option maxHeartbeats 1000000 in
theorem implConstantOf_yes {n : Int} {R : Nat} (h0 : 0 ≤ n) (h4 : n ≤ 4) (r0 : 0 < R) (r16 : R ≤ 16) (hR : Hid (rowsN n = (R : Int))) (he : R = 2 ^ n.toNat) (v : Nat) (hv : v ≤ 1) (w : World) :
    Calls Try.prog 255 #[.int .i64 n, .int .i64 (v : Int)] w fun e w' => e = .returned (.tuple #[.agg #[.int .i64 n, .int .i64 (v * allN n)], .int .i64 0]) ∧ Below w.heap.size w w' := by
  have H1 : inB n 0 4 = true := inB_true (by omega) h4
  have H2 : inB (v : Int) 0 1 = true := inB_true (by omega) (by omega)
  obtain ⟨W1, hW1⟩ : ∃ W1, (w.alloc (.cells #[.int .i64 (v : Int)] 2)).alloc (.cells #[.int .i64 0, .int .i64 0] 25) = W1 := ⟨_, rfl⟩
  have cI : W1.cell? ⟨w.heap.size, 0, none⟩ = some (.int .i64 (v : Int)) := by rw [← hW1]; simp [go_sem]
  have c0 : W1.cell? ⟨w.heap.size + 1, 0, none⟩ = some (.int .i64 0) := by rw [← hW1]; simp [go_sem]
  have c1 : W1.cell? ⟨w.heap.size + 1, 1, none⟩ = some (.int .i64 0) := by rw [← hW1]; simp [go_sem]
  have f0 : W1.frozen? ⟨w.heap.size + 1, 0, none⟩ = false := by rw [← hW1]; simp [go_sem]
  have f1 : W1.frozen? ⟨w.heap.size + 1, 1, none⟩ = false := by rw [← hW1]; simp [go_sem]
  have hB : Below w.heap.size w W1 := by rw [← hW1]; exact balloc (bnew _ _) _
  have F := Lib.hid (funcByRows_any n (by omega) h4 R r0 r16 hR 270 #[.pointer (some ⟨w.heap.size, 0, none⟩)] (enters_of Try.func270 (by kernel_rfl) rfl)
    (fun _ => v) (fun _ _ => hv) W1 (Lib.hid fun W hW r _ => Constant1_any w.heap.size r v W (kc hW cI)))
  rw [orBits_sum r0 _ (fun _ _ => hv), sum_const he hv] at F
  clear he
  go_enter Try.func255, Try.ntmps255
  go_wp2_with (first
    | (go_at_call 90; refine (isArity_is H1 _).mono ?_; rintro e w' ⟨rfl, rfl⟩)
    | (go_at_call 173; refine (isDigit_is H2 _).mono ?_; rintro e w' ⟨rfl, rfl⟩)
    | (go_at_call 94; refine F.out.mono ?_; rintro e w3 ⟨rfl, hb3⟩; have e0 := kc hb3 c0; have e1 := kc hb3 c1; have k0 := kf hb3 c0 f0; have k1 := kf hb3 c1 f1; have hB3 := bthen hB hb3))
  exact bodyPost_ret (v := .tuple #[.agg #[.int .i64 n, .int .i64 (v * allN n)], .int .i64 0]) (by simp [results, Try.results255, go_sem, e0, e1]) rfl ⟨rfl, (hB3.setCell (p := ⟨w.heap.size + 1, 0, none⟩) (by simp) _).setCell (p := ⟨w.heap.size + 1, 1, none⟩) (by simp) _⟩

set_option maxRecDepth 100000 in
set_option maxHeartbeats 1000000 in
theorem implConstantOf_no {n i : Int} (h : ¬ (0 ≤ n ∧ n ≤ 4 ∧ 0 ≤ i ∧ i ≤ 1)) (w : World) :
    Calls Try.prog 255 #[.int .i64 n, .int .i64 i] w fun e w' => e = .returned (.tuple #[.agg #[.int .i64 0, .int .i64 0], .int .i64 2]) ∧ Below w.heap.size w w' := by
  have hB := balloc (bnew w (.cells #[.int .i64 i] 2)) (.cells #[.int .i64 0, .int .i64 0] 25)
  generalize h1 : inB n 0 4 = x
  cases x
  · go_enter Try.func255, Try.ntmps255
    go_wp2_with (first
      | (go_at_call 90; refine (isArity_is h1 _).mono ?_; rintro e w' ⟨rfl, rfl⟩))
    exact bodyPost_ret (v := .tuple #[.agg #[.int .i64 0, .int .i64 0], .int .i64 2]) (by simp [results, Try.results255, go_sem]) rfl ⟨rfl, hB⟩
  · have h2 : inB i 0 1 = false := inB_false (by simp [inB] at h1; omega)
    go_enter Try.func255, Try.ntmps255
    go_wp2_with (first
      | (go_at_call 90; refine (isArity_is h1 _).mono ?_; rintro e w' ⟨rfl, rfl⟩)
      | (go_at_call 173; refine (isDigit_is h2 _).mono ?_; rintro e w' ⟨rfl, rfl⟩))
    exact bodyPost_ret (v := .tuple #[.agg #[.int .i64 0, .int .i64 0], .int .i64 2]) (by simp [results, Try.results255, go_sem]) rfl ⟨rfl, hB⟩

set_option maxRecDepth 100000 in
set_option maxHeartbeats 1000000 in
theorem l01Constant_any {n : Int} (h0 : 0 ≤ n) (h4 : n ≤ 4) (v : Nat) (hv : v ≤ 1) (w : World) :
    Calls Try.prog 178 #[.int .i64 n, .int .i64 (v : Int)] w fun e w' => e = .returned (.agg #[.int .i64 n, .int .i64 (v * allN n)]) ∧ Below w.heap.size w w' := by
  obtain ⟨ha, hb⟩ := allN_bd h0 h4
  have hB := bnew w (.cells #[.int .i64 0, .int .i64 0] 25)
  have hm : wrap64 (v * allN n) = v * allN n := by
    rcases (show v = 0 ∨ v = 1 by omega) with rfl | rfl <;> exact IntWalk.wrap64_in _ ⟨by omega, by omega⟩
  go_enter Try.func178, Try.ntmps178
  go_wp2_with (go_at_call 123; refine (l01All_any _ h0 h4 _).mono ?_; rintro e w' ⟨rfl, rfl⟩)
  exact bodyPost_ret (v := .agg #[.int .i64 n, .int .i64 (v * allN n)]) (by simp [results, Try.results178, go_sem]) rfl ⟨rfl, bnew _ _⟩

end Go.Proofs.Ytbdhlokbpbiijaa

/- L3:
  Lists of digits, and rows of arguments. -/
namespace Go.Proofs.Ytbdhlokbpbiijaa
open Go.RowKit

set_option maxRecDepth 100000 in
set_option maxHeartbeats 1000000 in
theorem areDigits_any {base : Nat} {s : Value} {xs : List Int} (hl : xs.length ≤ 1048576) (w : World) (h : Owns w base s xs) :
    Calls Try.prog 92 #[s] w fun e w' => e = .returned (.bool (xs.all fun v => inB v 0 1)) ∧ w = w' := by
  rcases h.shape with ⟨rfl, a, cap, rfl⟩ | ⟨hn, g, cap, rfl, hbg, hg, hc, hf⟩
  · go_enter Try.func92, Try.ntmps92
    go_wp2
    refine wp_loop_rounds 1 ?_
    rw [rounds_succ]
    go_wp2
    go_ret
    exact ⟨rfl, rfl⟩
  · clear h hf
    have hall : ∀ k, k ≤ xs.length → (∀ j, j < k → inB (xs[j]?.getD 0) 0 1 = true) → (k = xs.length → (xs.all fun v => inB v 0 1) = true) := by
      intro k _ h1 h2
      rw [List.all_eq_true]
      intro v hv
      obtain ⟨j, hj, rfl⟩ := List.mem_iff_getElem.1 hv
      have := h1 j (by omega)
      rwa [List.getElem?_eq_getElem hj] at this
    have hnot : ∀ k, k < xs.length → inB (xs[k]?.getD 0) 0 1 = false → (xs.all fun v => inB v 0 1) = false := by
      intro k hk h1
      rw [List.all_eq_false]
      exact ⟨xs[k], List.getElem_mem hk, by rw [List.getElem?_eq_getElem hk] at h1; simpa using h1⟩
    generalize hA : (xs.all fun v => inB v 0 1) = A at hall hnot ⊢
    have HALL := Lib.hid hall
    have HNOT := Lib.hid hnot
    clear hall hnot hA
    generalize xs.length = n at hl hn hc HALL HNOT ⊢
    go_enter Try.func92, Try.ntmps92
    go_wp2
    go_loop [7] (fun i' => ∃ i : Nat, i ≤ n ∧ i' = .int .i64 i ∧ Hid (∀ j, j < i → inB (xs[j]?.getD 0) 0 1 = true)) (fun i' => n - (intOf i').toNat)
    case atStart => exact ⟨0, Nat.zero_le _, rfl, Lib.hid (fun j hj => by omega)⟩
    case round =>
      obtain ⟨i, hi, rfl, HI⟩ := hrel
      by_cases hlt : i < n
      · have hu := hc.out i hlt
        cases hb : inB (xs[i]?.getD 0) 0 1
        · have hA := Lib.hid (HNOT.out i hlt hb)
          go_wp2_with (go_at_call 173; refine (isDigit_is hb _).mono ?_; rintro e w' ⟨rfl, rfl⟩)
          go_ret
          exact ⟨by rw [hA.out]; rfl, rfl⟩
        · have HI2 : Hid (∀ j, j < i + 1 → inB (xs[j]?.getD 0) 0 1 = true) := Lib.hid (fun j hj => by
            by_cases hji : j = i
            · rw [hji]; exact hb
            · exact HI.out j (by omega))
          go_wp2_with (go_at_call 173; refine (isDigit_is hb _).mono ?_; rintro e w' ⟨rfl, rfl⟩)
          go_round
          case rel => exact ⟨i + 1, by omega, by go_num, HI2⟩
          case measure => simp [intOf]; omega
      · obtain rfl : i = n := by omega
        have hA := Lib.hid (HALL.out i (Nat.le_refl _) HI.out rfl)
        go_wp2
        go_ret
        exact ⟨by rw [hA.out]; rfl, rfl⟩

set_option maxRecDepth 100000 in
set_option maxHeartbeats 1000000 in
theorem l01Bits_any {base : Nat} {s : Value} {xs : List Int} (hl : xs.length ≤ 1048576) (w : World) (h : Owns w base s xs) :
    Calls Try.prog 120 #[s] w fun e w' => e = .returned (.bool (xs.all fun v => inB v 0 1)) ∧ w = w' := by
  rcases h.shape with ⟨rfl, a, cap, rfl⟩ | ⟨hn, g, cap, rfl, hbg, hg, hc, hf⟩
  · go_enter Try.func120, Try.ntmps120
    go_wp2
    refine wp_loop_rounds 1 ?_
    rw [rounds_succ]
    go_wp2
    go_ret
    exact ⟨rfl, rfl⟩
  · clear h hf
    have hall : ∀ k, k ≤ xs.length → (∀ j, j < k → inB (xs[j]?.getD 0) 0 1 = true) → (k = xs.length → (xs.all fun v => inB v 0 1) = true) := by
      intro k _ h1 h2
      rw [List.all_eq_true]
      intro v hv
      obtain ⟨j, hj, rfl⟩ := List.mem_iff_getElem.1 hv
      have := h1 j (by omega)
      rwa [List.getElem?_eq_getElem hj] at this
    have hnot : ∀ k, k < xs.length → inB (xs[k]?.getD 0) 0 1 = false → (xs.all fun v => inB v 0 1) = false := by
      intro k hk h1
      rw [List.all_eq_false]
      exact ⟨xs[k], List.getElem_mem hk, by rw [List.getElem?_eq_getElem hk] at h1; simpa using h1⟩
    generalize hA : (xs.all fun v => inB v 0 1) = A at hall hnot ⊢
    have HALL := Lib.hid hall
    have HNOT := Lib.hid hnot
    clear hall hnot hA
    generalize xs.length = n at hl hn hc HALL HNOT ⊢
    go_enter Try.func120, Try.ntmps120
    go_wp2
    go_loop [3] (fun i' => ∃ i : Nat, i ≤ n ∧ i' = .int .i64 i ∧ Hid (∀ j, j < i → inB (xs[j]?.getD 0) 0 1 = true)) (fun i' => n - (intOf i').toNat)
    case atStart => exact ⟨0, Nat.zero_le _, rfl, Lib.hid (fun j hj => by omega)⟩
    case round =>
      obtain ⟨i, hi, rfl, HI⟩ := hrel
      by_cases hlt : i < n
      · have hu := hc.out i hlt
        cases hb : inB (xs[i]?.getD 0) 0 1
        · have hA := Lib.hid (HNOT.out i hlt hb)
          go_wp2_with (go_at_call 105; refine (l01In_is hb _).mono ?_; rintro e w' ⟨rfl, rfl⟩)
          go_ret
          exact ⟨by rw [hA.out]; rfl, rfl⟩
        · have HI2 : Hid (∀ j, j < i + 1 → inB (xs[j]?.getD 0) 0 1 = true) := Lib.hid (fun j hj => by
            by_cases hji : j = i
            · rw [hji]; exact hb
            · exact HI.out j (by omega))
          go_wp2_with (go_at_call 105; refine (l01In_is hb _).mono ?_; rintro e w' ⟨rfl, rfl⟩)
          go_round
          case rel => exact ⟨i + 1, by omega, by go_num, HI2⟩
          case measure => simp [intOf]; omega
      · obtain rfl : i = n := by omega
        have hA := Lib.hid (HALL.out i (Nat.le_refl _) HI.out rfl)
        go_wp2
        go_ret
        exact ⟨by rw [hA.out]; rfl, rfl⟩
end Go.Proofs.Ytbdhlokbpbiijaa

/- IR:
  isRow of the program. -/
namespace Go.Proofs.Ytbdhlokbpbiijaa
open Go.RowKit

end Go.Proofs.Ytbdhlokbpbiijaa

/- MO4:
  Chapter 7 of the program: rows, lists of rows, a row above one of a list. -/
namespace Go.Proofs.Ytbdhlokbpbiijaa
open Go.RowKit
set_option linter.unusedVariables false
set_option linter.unusedSimpArgs false

/-- All of a list are rows. -/
def rowsB (R : Nat) (xs : List Int) : Bool := xs.all fun v => inB v 0 ((R : Int) - 1)

/-- r is above one of the first k. -/
def abTo (r : Nat) (l : List Nat) (k : Nat) : Bool := abv r (l.take k)
theorem abTo_succ {r : Nat} {l : List Nat} {k : Nat} (hk : k < l.length) : abTo r l (k + 1) = (abTo r l k || inR r (l[k]?.getD 0)) := by
  unfold abTo abv
  rw [List.take_succ_eq_append_getElem hk, List.any_append, List.getElem?_eq_getElem hk]
  simp
theorem abTo_all (r : Nat) (l : List Nat) : abTo r l l.length = abv r l := by unfold abTo; rw [List.take_length]
theorem abTo_true {r : Nat} {l : List Nat} {k : Nat} (hk : k < l.length) (h : inR r (l[k]?.getD 0) = true) : abv r l = true := by
  rw [List.getElem?_eq_getElem hk] at h
  exact abv_iff.2 ⟨l[k], List.getElem_mem hk, h⟩
theorem in_bits {r o : Nat} (hr : r < 62) (ho : o < 62) : (bits .and .i64 (r : Int) (o : Int) == (o : Int)) = inR r o := by
  rw [bits_and_i64 r o (by omega) (by omega), beq_cast]; rfl

end Go.Proofs.Ytbdhlokbpbiijaa

/- MO3:
  Chapter 7 of the model: l07Ends. -/
namespace Go.Proofs.Ytbdhlokbpbiijaa
open Go.RowKit
set_option linter.unusedVariables false
set_option linter.unusedSimpArgs false

end Go.Proofs.Ytbdhlokbpbiijaa

/- CT1:
  The functions of an arity as a function that is ranged over, and their count by whatever closure. -/
namespace Go.Proofs.Ytbdhlokbpbiijaa
open Go.RowKit Go.Shelf
attribute [local go_sem] Oper.semAt_some

/-- A function as it is handed out. -/
def encFunc {T : Nat} (m : Int) (x : Row T) : Array Value := #[.agg #[.int .i64 m, .int .i64 (x.1 : Int)]]

theorem shl_T (R T : Nat) (hT : T = 2 ^ R) (h16 : T ≤ 65536) : wrap64 (2 ^ R) = (T : Int) := by
  have e : (2 : Int) ^ R = (T : Int) := by rw [hT]; push_cast; rfl
  rw [e]
  exact IntWalk.wrap64_in _ ⟨by omega, by omega⟩

/-- The cell of the box B stays. -/
def Stays (B : Nat) (n₀ : Nat) (A C : World) : Prop := Below n₀ A C ∧ ∀ v, A.cell? ⟨B, 0, none⟩ = some v → C.cell? ⟨B, 0, none⟩ = some v

set_option maxRecDepth 100000 in
set_option maxHeartbeats 1000000 in
theorem funcs1_in (n : Nat) (hn : 1 ≤ n) (l Bn n₀ : Nat) (m : Int) (R T : Nat) (h0 : 0 ≤ m) (h4 : m ≤ 4) (hR0 : 0 < R) (hR16 : R ≤ 16) (hR : Hid (rowsN m = (R : Int))) (hT : T = 2 ^ R) (hT0 : 0 < T) (hT16 : T ≤ 65536) (J Jx : List (Row T) → World → Prop)
    (hY : ∀ pre x W, J pre W → pre.length < T → YieldAt Fence.wide (n - 1) Try.prog l (encFunc m x) W fun e W' =>
      (e = .returned (.bool true) ∧ J (pre ++ [x]) W' ∧ Stays Bn n₀ W W') ∨ (e = .returned (.bool false) ∧ Jx (pre ++ [x]) W'))
    (W : World) (hBn : W.cell? ⟨Bn, 0, none⟩ = some (.int .i64 m)) (hj : J [] W) :
    CallsIn Fence.wide n Try.prog 218 #[.func (.yield l) #[] #[], .pointer (some ⟨Bn, 0, none⟩)] W fun e W' => (∃ v, e = .returned v) ∧
      ((∃ ys, ys = upto hT0 T ∧ J ys W') ∨ (∃ pre, True ∧ Jx pre W')) := by
  have hs := Lib.hid (shl_T R T hT hT16)
  clear hT
  refine callsIn_of_wp Try.func218 rfl trivial ?_ rfl
  simp only [Try.ntmps218, List.size_toArray, List.length_cons, List.length_nil, Nat.reduceAdd, Nat.reduceSub, Array.replicate_succ, Array.replicate_zero, List.push_toArray, List.append_toArray, List.nil_append, List.cons_append]
  gi_wp2_with (refine ⟨trivial, ?_⟩; gi_at_call 91; refine (callsIn_wide.2 (rowCount_is h0 h4 hR _)).mono ?_; rintro e w' ⟨rfl, rfl⟩)
  rw [hs.out]
  gi_loopw [7] (fun i wr => ∃ k : Nat, k ≤ T ∧ i = .int .i64 k ∧ J (upto hT0 k) wr ∧ wr.cell? ⟨Bn, 0, none⟩ = some (.int .i64 m))
    (fun i _ => T - (intOf i).toNat)
  case atStart => exact ⟨0, Nat.zero_le _, rfl, hj, hBn⟩
  case round =>
    clear hBn
    obtain ⟨k, hk, rfl, hJs, hBn⟩ := hrel
    by_cases hlt : k < T
    · obtain ⟨fn, tmps, assign, body, hy, hRd⟩ := hY _ (rowAt hT0 k) wr hJs (by rw [upto_length]; exact hlt)
      unfold encFunc at hy
      rw [rowAt_val hT0 hlt] at hy
      gi_wp2
      refine hRd.mono ?_
      rintro e W3 (⟨rfl, hJ3, hk3⟩ | ⟨rfl, hJx3⟩)
      · have hBn3 := hk3.2 _ hBn
        gi_wp2
        go_roundw
        case rel => exact ⟨k + 1, by omega, by simp, by rw [upto_succ]; exact hJ3, hBn3⟩
        case measure => simp [intOf]; omega
      · gi_wp2
        refine bodyPost_ret (results_none rfl _ _ _) rfl ?_
        exact ⟨⟨_, rfl⟩, .inr ⟨_, trivial, hJx3⟩⟩
    · obtain rfl : k = T := by omega
      gi_wp2
      go_end0
      exact ⟨⟨_, rfl⟩, .inl ⟨_, rfl, hJs⟩⟩

theorem funcs_stops (n : Nat) (hn : 1 ≤ n) (Bn n₀ : Nat) (m : Int) (R T : Nat) (h0 : 0 ≤ m) (h4 : m ≤ 4) (hR0 : 0 < R) (hR16 : R ≤ 16) (hR : Hid (rowsN m = (R : Int))) (hT : T = 2 ^ R) (hT0 : 0 < T) (hT16 : T ≤ 65536) (w : World)
    (hc : w.cell? ⟨Bn, 0, none⟩ = some (.int .i64 m)) :
    SeqStopsK Fence.wide n Try.prog 218 #[.pointer (some ⟨Bn, 0, none⟩)] (encFunc (T := T) m) (Stays Bn n₀) (fun ys => ys = upto hT0 T) (fun _ => True) T w := fun l J Jx W hW _ _ hY hj =>
  funcs1_in n hn l Bn n₀ m R T h0 h4 hR0 hR16 hR hT hT0 hT16 J Jx hY W ((hW.cell (p := ⟨Bn, 0, none⟩) (cell_lt hc)).trans hc) hj

set_option maxHeartbeats 1000000 in
theorem funcsOfArity_any (m : Int) (w : World) :
    Calls Try.prog 184 #[.int .i64 m] w fun e w' => e = .returned (.func (.func 218) #[] #[.pointer (some ⟨w.heap.size, 0, none⟩)]) ∧ w' = w.alloc (.cells #[.int .i64 m] 2) := by
  go_enter Try.func184, Try.ntmps184
  go_wp2
  go_ret
  exact ⟨rfl, rfl⟩
end Go.Proofs.Ytbdhlokbpbiijaa

/- CT2:
  countFuncs by contract, for whatever closure. -/
namespace Go.Proofs.Ytbdhlokbpbiijaa
open Go.RowKit Go.Shelf
attribute [local go_sem] Oper.semAt_some

/-- How many of the functions handed out so far hold. -/
def cntF {T : Nat} (p : Nat → Bool) (pre : List (Row T)) : Nat := pre.countP fun x => p x.1
theorem cntF_snoc {T : Nat} (p : Nat → Bool) (pre : List (Row T)) (x : Row T) : cntF p (pre ++ [x]) = cntF p pre + (p x.1).toNat := by
  unfold cntF
  rw [List.countP_append, List.countP_cons, List.countP_nil]
  cases p x.1 <;> rfl
theorem cntF_le {T : Nat} (p : Nat → Bool) (pre : List (Row T)) : cntF p pre ≤ pre.length := List.countP_le_length
/-- .. of the numbers below k. -/
def cntTo (p : Nat → Bool) (k : Nat) : Nat := (List.range k).countP p
theorem cntTo_succ (p : Nat → Bool) (k : Nat) : cntTo p (k + 1) = cntTo p k + (p k).toNat := by
  unfold cntTo
  rw [List.range_succ, List.countP_append, List.countP_cons, List.countP_nil]
  cases p k <;> rfl
theorem cntTo_le (p : Nat → Bool) (k : Nat) : cntTo p k ≤ k := by
  have := List.countP_le_length (p := p) (l := List.range k)
  rw [List.length_range] at this
  exact this
theorem cntF_upto {T : Nat} (hT : 0 < T) (p : Nat → Bool) (k : Nat) (hk : k ≤ T) : cntF p (upto hT k) = cntTo p k := by
  induction k with
  | zero => rfl
  | succ k ih => rw [upto_succ, cntF_snoc, ih (by omega), cntTo_succ, rowAt_val hT (by omega)]

/-- countFuncs between two rounds. -/
structure CMid (B : Nat) (fv : Value) (c : Nat) (W : World) : Prop where
  c3 : W.cell? ⟨B, 0, none⟩ = some fv
  c5 : W.cell? ⟨B + 1, 0, none⟩ = some (.int .i64 (c : Int))
  f5 : W.frozen? ⟨B + 1, 0, none⟩ = false
theorem CMid.kept {B : Nat} {fv : Value} {c : Nat} {W W' : World} {row : Option Nat} (h : CMid B fv c W) (hg : W.grownBy W' row) (hr : ∀ r, row = some r → ∃ o : Obj, W.heap[r]? = some o ∧ o.isCells = false) : CMid B fv c W' :=
  ⟨cell_kept h.c3 hg hr, cell_kept h.c5 hg hr, (frozen_kept h.c5 hg hr).trans h.f5⟩
theorem CMid.below {B : Nat} {fv : Value} {c : Nat} {W W' : World} (h : CMid B fv c W) (hb : Below W.heap.size W W') : CMid B fv c W' := ⟨kc hb h.c3, kc hb h.c5, kf hb h.c5 h.f5⟩
theorem CMid.up {B : Nat} {fv : Value} {c c2 : Nat} {W : World} (h : CMid B fv c W) : CMid B fv c2 (W.setCell ⟨B + 1, 0, none⟩ (.int .i64 (c2 : Int))) := by
  have d3 := h.c3
  have d5 := h.c5
  exact ⟨by simp [go_sem, d3], by simp [go_sem, d5], by rw [World.frozen?_setCell]; exact h.f5⟩

theorem stays_t {B n₀ : Nat} {A C D : World} (h : Stays B n₀ A C) (k : Stays B n₀ C D) : Stays B n₀ A D := ⟨h.1.trans k.1, fun v hv => k.2 v (h.2 v hv)⟩
theorem stays_b {B n₀ : Nat} {w : World} (hn : n₀ ≤ w.heap.size) (W : World) (l : Nat) (o o' : Obj) (hl : w.heap.size ≤ l) (h : W.heap[l]? = some o) (hc : o.isCells = false) (hw : o.isWalk = false) : Stays B n₀ W (W.putObj l o') :=
  ⟨belowK_b hn W l o o' hl h hc hw, fun _ hv => cell_kept hv (grownBy_putObj' W l o') (fun r e => by cases e; exact ⟨o, h, hc⟩)⟩
theorem stays_below {B n₀ : Nat} {W W' : World} (hn : n₀ ≤ W.heap.size) (h : Below W.heap.size W W') : Stays B n₀ W W' := ⟨h.mono hn, fun _ hv => kc h hv⟩
theorem stays_set {B n₀ C : Nat} (W : World) (hne : C ≠ B) (hn : n₀ ≤ C) (v : Value) : Stays B n₀ W (W.setCell ⟨C, 0, none⟩ v) :=
  ⟨(Below.refl _ _).setCell (p := ⟨C, 0, none⟩) hn v, fun u hu => by simp [go_sem, hu]⟩
theorem kotb {W w' : World} (hb : Below W.heap.size W w') : KeepsOthers W w' :=
  ⟨hb.size, fun k _ hk _ => (hb.block k (Array.getElem?_eq_some_iff.1 hk).1).trans hk⟩

set_option maxRecDepth 100000 in
set_option maxHeartbeats 2000000 in
theorem countFuncs_any (m : Int) (h0 : 0 ≤ m) (h4 : m ≤ 4) (R T : Nat) (hR0 : 0 < R) (hR16 : R ≤ 16) (hR : Hid (rowsN m = (R : Int))) (hT : Hid (T = 2 ^ R)) (hT0 : 0 < T) (hT16 : T ≤ 65536) (g : Nat) (cap : Array Value)
    (eg : ∀ args w, (callFunc g args).run Try.prog w = .ok (.enter g args) w) (p : Nat → Bool) (w : World)
    (hval : Hid (∀ W, Below w.heap.size w W → ∀ x : Nat, x < T → Calls Try.prog g (#[.agg #[.int .i64 m, .int .i64 (x : Int)]] ++ cap) W fun e W' => e = .returned (.bool (p x)) ∧ Below W.heap.size W W')) :
    Calls Try.prog 121 #[.int .i64 m, .func (.func g) #[] cap] w fun e w' => e = .returned (.int .i64 (cntTo p T : Int)) ∧ Below w.heap.size w w' := by
  refine (callsIn_wide (n := 3)).1 ?_
  refine callsIn_of_wp_marks Try.func121 rfl trivial ?_ rfl
  simp only [Try.ntmps121, List.size_toArray, List.length_cons, List.length_nil, Nat.reduceAdd, Nat.reduceSub, Array.replicate_succ, Array.replicate_zero, List.push_toArray, List.append_toArray, List.nil_append, List.cons_append]
  gi_wp2_with (refine ⟨trivial, ?_⟩; gi_at_call 184; refine (callsIn_wide.2 (funcsOfArity_any _ _)).mono ?_; rintro e w' ⟨rfl, rfl⟩)
  obtain ⟨W0, hW0⟩ : ∃ W0, ((w.alloc (.cells #[.func (.func g) #[] cap] 89)).alloc (.cells #[.int .i64 0] 2)).alloc (.cells #[.int .i64 m] 2) = W0 := ⟨_, rfl⟩
  have c3 : W0.cell? ⟨w.heap.size, 0, none⟩ = some (.func (.func g) #[] cap) := by rw [← hW0]; simp [go_sem]
  have c5 : W0.cell? ⟨w.heap.size + 1, 0, none⟩ = some (.int .i64 0) := by rw [← hW0]; simp [go_sem]
  have cM : W0.cell? ⟨w.heap.size + 1 + 1, 0, none⟩ = some (.int .i64 m) := by rw [← hW0]; simp [go_sem]
  have f5 : W0.frozen? ⟨w.heap.size + 1, 0, none⟩ = false := by rw [← hW0]; simp [go_sem]
  have hsz : W0.heap.size = w.heap.size + 3 := by rw [← hW0]; simp [go_sem]
  have hB0 : Below w.heap.size w W0 := by rw [← hW0]; exact balloc (balloc (bnew _ _) _) _
  rw [hW0]
  clear hW0
  refine wpIn_rangeFunc_ownH (α := Row T) rfl (by omega) (gf := 218) (lb := #[.pointer (some ⟨w.heap.size + 1 + 1, 0, none⟩)]) rfl trivial (enters_of Try.func218 (by kernel_rfl) rfl)
    (funcs_stops (3 - 1) (by omega) (w.heap.size + 1 + 1) w.heap.size m R T h0 h4 hR0 hR16 hR hT.out hT0 hT16 W0 cM) stays_t (stays_b (by omega)) (Below.refl _ _) (fun _ => rfl)
    (fun pre W => CMid w.heap.size (.func (.func g) #[] cap) (cntF p pre) W ∧ Below w.heap.size w W)
    (fun _ _ _ => False)
    (OwnFrom.and (Own.from (fun s A B row hs hg hr => hs.kept hg hr) _) (ownFrom_below (Nat.le_refl _) (by omega)))
    (fun _ _ _ _ _ hs _ _ => hs)
    ⟨⟨c3, by simpa [cntF] using c5, f5⟩, hB0⟩
    (fun x a' W => ∃ BX, a' = { tmps := #[.int .i64 m, .func (.func g) #[] cap, undef, .pointer (some ⟨w.heap.size, 0, none⟩), .int .i64 0, .pointer (some ⟨w.heap.size + 1, 0, none⟩), .pointer (some ⟨BX, 0, none⟩), .int .i64 m,
      .func (.func 218) #[] #[.pointer (some ⟨w.heap.size + 1 + 1, 0, none⟩)], .agg #[.int .i64 m, .int .i64 (x.1 : Int)], undef, undef, undef, undef, undef, undef], defers := [] } ∧ FBox BX m x.1 W)
    (fun x a' _ A B row ⟨BX, e, hb⟩ hg hr => ⟨BX, e, ⟨cell_kept hb.c0 hg (fun r er => (hr r er).2), cell_kept hb.c1 hg (fun r er => (hr r er).2)⟩⟩)
    ?assign ?body ?done ?stop
  case assign =>
    rintro l pre x W K ⟨hM, hB⟩ hK
    unfold encFunc
    gi_wp2
    refine hK _ _ ((KeepsOthers.alloc W _).from _) (stays_below (by have := hB.size; omega) (bnew _ _)) ⟨hM.below (bnew _ _), balloc hB _⟩ ⟨W.heap.size, rfl, ⟨by simp [go_sem], by simp [go_sem]⟩⟩
  case body =>
    clear c3 c5 cM f5
    rintro l pre x _ W hl hrec ⟨hM, hB⟩ ⟨BX, rfl, hbx⟩ hlen
    have HM := Lib.hid hM
    have c3 := hM.c3
    have c0 := hbx.c0
    have c1 := hbx.c1
    clear hM hbx hrec
    have hx := x.2
    have hpx := cntF_snoc p pre x
    have hle := cntF_le p pre
    cases hp : p x.1
    · rw [hp] at hpx
      have HP := Lib.hid hp
      have HC := Lib.hid hpx
      clear hp hpx
      generalize x.1 = r at hx HP c1 ⊢
      gi_wp2_with (refine ⟨trivial, ?_⟩; refine (callsIn_wide.2 (hval.out _ hB r hx)).mono ?_; rintro e w' ⟨rfl, hb'⟩; rw [HP.out])
      exact ⟨(kotb hb').from _, stays_below (by have := hB.size; omega) hb', by rw [HC.out]; exact HM.out.below hb', bthen hB hb'⟩
    · rw [hp] at hpx
      have HP := Lib.hid hp
      have HC := Lib.hid hpx
      clear hp hpx
      generalize x.1 = r at hx HP c1 ⊢
      have c5 := HM.out.c5
      gi_wp2_with (refine ⟨trivial, ?_⟩; refine (callsIn_wide.2 (hval.out _ hB r hx)).mono ?_; rintro e w' ⟨rfl, hb'⟩; rw [HP.out]; have HM2 := Lib.hid (HM.out.below hb'); have d5 := HM2.out.c5; have g5 := HM2.out.f5)
      have hu := HM2.out.up (c2 := cntF p pre + true.toNat)
      rw [show ((cntF p pre + true.toNat : Nat) : Int) = (cntF p pre : Int) + 1 from by simp] at hu
      exact ⟨((kotb hb').trans (KeepsOthers.setCell _ _ _)).from _, stays_t (stays_below (by have := hB.size; omega) hb') (stays_set _ (by omega) (by omega) _), by rw [HC.out]; exact hu, (bthen hB hb').setCell (p := ⟨w.heap.size + 1, 0, none⟩) (by simp) _⟩
  case done =>
    clear c3 c5 cM f5
    rintro D ys W hD rfl ⟨hM, hB⟩ hK
    rw [cntF_upto hT0 p T (Nat.le_refl _)] at hM
    have c5 := hM.c5
    clear hM
    gi_wp2
    refine ⟨by simp, .inl ⟨_, _, rfl, run_takeDeferred hK, ?_⟩⟩
    exact ⟨.int .i64 (cntTo p T : Int), by simp [results, Try.results121, go_sem], rfl, hB.trans (belowK_b (w := w) (Nat.le_refl _) W D _ _ (by omega) hK rfl rfl)⟩
  case stop =>
    rintro D c pre W _ _ h _
    exact h.elim
end Go.Proofs.Ytbdhlokbpbiijaa

/- M1:
  Lists of functions (structs of two numbers) in memory, and the laws' small functions on them. -/
namespace Go.Proofs.Ytbdhlokbpbiijaa
open Go.RowKit

/-- The cells of a list of structs of two numbers. -/
def fcells : List (Int × Int) → List Value
  | [] => []
  | p :: xs => .int .i64 p.1 :: .int .i64 p.2 :: fcells xs
theorem fcells_length : ∀ xs, (fcells xs).length = xs.length * 2
  | [] => rfl
  | p :: xs => by simp only [fcells, List.length_cons, fcells_length xs]; omega
theorem fcells_append : ∀ xs ys, fcells (xs ++ ys) = fcells xs ++ fcells ys
  | [], _ => rfl
  | p :: xs, ys => by simp only [List.cons_append, fcells, fcells_append xs ys]
theorem fcells_snoc (xs : List (Int × Int)) (p : Int × Int) : fcells (xs ++ [p]) = fcells xs ++ [.int .i64 p.1, .int .i64 p.2] := fcells_append xs [p]
/-- The function at a place. -/
def fget (xs : List (Int × Int)) (j : Nat) : Int × Int := xs[j]?.getD (0, 0)
theorem fcells_get : ∀ (xs : List (Int × Int)) (j : Nat), j < xs.length → (fcells xs)[j * 2]? = some (.int .i64 (fget xs j).1) ∧ (fcells xs)[j * 2 + 1]? = some (.int .i64 (fget xs j).2)
  | [], j, h => by simp at h
  | p :: xs, 0, _ => ⟨rfl, rfl⟩
  | p :: xs, j + 1, h => by
    have := fcells_get xs j (by simpa using h)
    rw [show (j + 1) * 2 = j * 2 + 1 + 1 by omega]
    simpa [fcells, fget] using this
theorem fset (ys : List (Int × Int)) (vs : List Value) (i : Nat) (p : Int × Int) (hy : ys.length = i) (hv : i * 2 + 1 < vs.length) :
    ((fcells ys ++ vs.drop (i * 2)).set (i * 2) (.int .i64 p.1)).set (i * 2 + 1) (.int .i64 p.2) = fcells (ys ++ [p]) ++ vs.drop ((i + 1) * 2) := by
  have hl : (fcells ys).length = i * 2 := by rw [fcells_length, hy]
  rw [List.set_append_right _ _ (by omega), hl, Nat.sub_self, List.drop_eq_getElem_cons (by omega), List.set_cons_zero, List.set_append_right _ _ (by omega), hl,
    show i * 2 + 1 - i * 2 = 1 by omega, List.drop_eq_getElem_cons (by omega), List.set_cons_succ, List.set_cons_zero, fcells_snoc, List.append_assoc]
  simp [Nat.add_mul]
/-- The first j functions of a list, one more. -/
theorem ftake_snoc (zs : List (Int × Int)) (j : Nat) (h : j < zs.length) : zs.take (j + 1) = zs.take j ++ [fget zs j] := by
  rw [List.take_succ_eq_append_getElem h, fget, List.getElem?_eq_getElem h]; rfl
/-- The marks of a list of structs. -/
def fmarks (k : Int) (n : Nat) : List (Int × Int) := (List.range n).map fun (j : Nat) => (k + 2 * j, k + 2 * j + 1)
theorem fmarks_length (k : Int) (n : Nat) : (fmarks k n).length = n := by simp [fmarks]
theorem fmarks_succ (k : Int) (n : Nat) : fmarks k (n + 1) = fmarks k n ++ [(k + 2 * n, k + 2 * n + 1)] := by simp [fmarks, List.range_succ]
theorem fmarks_get (k : Int) (n j : Nat) (h : j < n) : fget (fmarks k n) j = (k + 2 * j, k + 2 * j + 1) := by simp [fmarks, fget, h]

theorem infoF : (Try.prog.info? 25).map (fun i => (i.zero, i.size, i.bytes)) = some (some (.agg #[.int .i64 0, .int .i64 0]), 2, 16) := by kernel_rfl

/-- s is a list of the call's own (from block base on) that holds the functions xs. -/
def OwnsF (W : World) (base : Nat) (s : Value) (xs : List (Int × Int)) : Prop := W.ownsRow base 25 2 s xs.length (fcells xs)
theorem OwnsF.below {W W' : World} {base : Nat} {s : Value} {xs : List (Int × Int)} (h : OwnsF W base s xs) (hb : Below W.heap.size W W') : OwnsF W' base s xs := by
  obtain ⟨h1, h2 | ⟨g, cap, cur, e1, e2, e3, r⟩⟩ := h
  · exact ⟨h1, .inl h2⟩
  · exact ⟨h1, .inr ⟨g, cap, cur, e1, e2, (hb.block g (Array.getElem?_eq_some_iff.1 e3).1).trans e3, r⟩⟩
theorem OwnsF.nil (W : World) (base : Nat) : OwnsF W base (.slice none 0 0) [] := World.ownsRow_nil _ _ _ _
theorem OwnsF.mono {W : World} {b1 b2 : Nat} {s : Value} {xs : List (Int × Int)} (h : OwnsF W b1 s xs) (hb : b2 ≤ b1) : OwnsF W b2 s xs := by
  obtain ⟨h1, h2 | ⟨g, cap, cur, e1, e2, e3, r⟩⟩ := h
  · exact ⟨h1, .inl h2⟩
  · exact ⟨h1, .inr ⟨g, cap, cur, e1, Nat.le_trans hb e2, e3, r⟩⟩
theorem OwnsF.lt {W : World} {b : Nat} {s : Value} {xs : List (Int × Int)} (h : OwnsF W b s xs) : ∀ k, s.ownBlock = some k → k < W.heap.size := fun k hk => (World.ownsRow.lt h k hk).2
theorem OwnsF.ge {W : World} {b : Nat} {s : Value} {xs : List (Int × Int)} (h : OwnsF W b s xs) : ∀ k, s.ownBlock = some k → b ≤ k := fun k hk => (World.ownsRow.lt h k hk).1
theorem OwnsF.keep {W W' : World} {b : Nat} {s : Value} {xs : List (Int × Int)} {row : Option Nat} (h : OwnsF W b s xs) (hg : W.grownBy W' row) (hne : ∀ k, s.ownBlock = some k → some k ≠ row) : OwnsF W' b s xs := by
  refine World.ownsRow.kept h hg ?_
  cases hs : s.ownBlock with
  | none => exact .inl rfl
  | some k => exact .inr (hne k hs)

theorem OwnsF.shape {W : World} {base : Nat} {s : Value} {xs : List (Int × Int)} (h : OwnsF W base s xs) :
    (xs = [] ∧ ∃ a cap, s = .slice a 0 cap) ∨ (0 < xs.length ∧ ∃ g cap, s = .slice (some ⟨g, 0, none⟩) xs.length cap ∧ base ≤ g ∧ g < W.heap.size ∧ Hid (∀ j, j < xs.length → W.cell? ⟨g, j * 2, none⟩ = some (.int .i64 (fget xs j).1) ∧ W.cell? ⟨g, j * 2 + 1, none⟩ = some (.int .i64 (fget xs j).2)) ∧ Hid (∀ j, W.frozen? ⟨g, j, none⟩ = false)) := by
  cases xs with
  | nil =>
    refine .inl ⟨rfl, ?_⟩
    obtain ⟨_, ⟨rfl, _⟩ | ⟨g, cap, cur, rfl, _⟩⟩ := h
    · exact ⟨_, _, rfl⟩
    · exact ⟨_, _, rfl⟩
  | cons x xs =>
    refine .inr ⟨by simp, ?_⟩
    obtain ⟨g, cap, rfl⟩ := ownsRow_succ (k := xs.length) h
    have hl := World.ownsRow.lt h g rfl
    refine ⟨g, cap, rfl, hl.1, hl.2, fun j hj => ?_, fun j => World.ownsRow.frozenAt h j⟩
    obtain ⟨h0, h1⟩ := fcells_get (x :: xs) j hj
    have hj' : j < xs.length + 1 := by simpa using hj
    rw [World.ownsRow.cellAt h (j * 2) (by omega), World.ownsRow.cellAt h (j * 2 + 1) (by omega)]
    exact ⟨h0, h1⟩

set_option maxRecDepth 100000 in
set_option maxHeartbeats 1000000 in
theorem szFuncS_any (a : Option Addr) (len cap : Nat) (hl : len ≤ 9223372036854775807) (left : Int) (h0 : 0 ≤ left) (h1 : left ≤ 1048576) (w : World) :
    Calls Try.prog 66 #[.slice a len cap, .int .i64 left] w fun e w' => e = .returned (.int .i64 (if (len : Int) ≤ left then left - len else -1)) ∧ w = w' := by
  by_cases h : (len : Int) ≤ left
  · rw [if_pos h]
    go_enter Try.func66, Try.ntmps66
    go_wp2
    go_ret
    exact ⟨rfl, rfl⟩
  · rw [if_neg h]
    go_enter Try.func66, Try.ntmps66
    go_wp2
    go_ret
    exact ⟨rfl, rfl⟩

theorem szFuncS_ok (a : Option Addr) (len cap : Nat) (h : len ≤ 1048576) (w : World) :
    Calls Try.prog 66 #[.slice a len cap, .int .i64 1048576] w fun e w' => e = .returned (.int .i64 (1048576 - (len : Int))) ∧ w = w' := by
  have := szFuncS_any a len cap (by omega) 1048576 (by omega) (by omega) w
  rwa [if_pos (by omega)] at this
theorem szFuncS_over (a : Option Addr) (len cap : Nat) (h : 1048576 < len) (hl : len ≤ 9223372036854775807) (w : World) :
    Calls Try.prog 66 #[.slice a len cap, .int .i64 1048576] w fun e w' => e = .returned (.int .i64 (-1)) ∧ w = w' := by
  have := szFuncS_any a len cap hl 1048576 (by omega) (by omega) w
  rwa [if_neg (by omega)] at this

set_option maxRecDepth 100000 in
set_option maxHeartbeats 2000000 in
theorem markFuncS_any {base : Nat} {s : Value} {xs : List (Int × Int)} (hl : xs.length ≤ 1048576) (k : Int) (hk0 : 0 ≤ k) (hk1 : k ≤ 100000000) (w : World) (h : OwnsF w base s xs) :
    Calls Try.prog 72 #[s, .int .i64 k] w fun e w' => e = .returned (.int .i64 (k + 2 * xs.length)) ∧ OwnsF w' base s (fmarks k xs.length) ∧ w.grownBy w' s.ownBlock := by
  rcases h.shape with ⟨rfl, a, cap, rfl⟩ | ⟨hn, g, cap, rfl, hbg, hg, hc, hf⟩
  · go_enter Try.func72, Try.ntmps72
    go_wp2
    refine wp_loop_rounds 1 ?_
    rw [rounds_succ]
    go_wp2
    go_ret
    exact ⟨by simp, h, World.grownBy.refl _ _⟩
  · have hn' : (fcells xs).length = xs.length * 2 := fcells_length xs
    unfold OwnsF at h
    unfold OwnsF
    rw [fmarks_length]
    generalize xs.length = n at hl hn hn' hc h ⊢
    generalize fcells xs = vs at hn' h
    clear hc hf
    go_enter Try.func72, Try.ntmps72
    go_wp2
    go_loopw [1, 5] (fun q i' wr => ∃ i : Nat, i ≤ n ∧ i' = .int .i64 i ∧ q = .int .i64 (k + 2 * i) ∧ wr.ownsRow base 25 2 (.slice (some ⟨g, 0, none⟩) n cap) n (fcells (fmarks k i) ++ vs.drop (i * 2)) ∧ w.grownBy wr (some g)) (fun _ i' _ => n - (intOf i').toNat)
    case atStart => exact ⟨0, Nat.zero_le _, rfl, by simp, by simpa [fmarks, fcells] using h, World.grownBy.refl _ _⟩
    case round =>
      clear h
      obtain ⟨i, hi, rfl, rfl, ho, hgr⟩ := hrel
      by_cases hlt : i < n
      · have hlen : (fcells (fmarks k i) ++ vs.drop (i * 2)).length = n * 2 := by rw [List.length_append, fcells_length, fmarks_length, List.length_drop]; omega
        obtain ⟨u, hu⟩ : ∃ u, wr.cell? ⟨g, i * 2, none⟩ = some u := by
          rw [ho.cellAt (i * 2) (by omega)]
          exact ⟨_, List.getElem?_eq_getElem (by omega)⟩
        obtain ⟨u2, hu2⟩ : ∃ u, wr.cell? ⟨g, i * 2 + 1, none⟩ = some u := by
          rw [ho.cellAt (i * 2 + 1) (by omega)]
          exact ⟨_, List.getElem?_eq_getElem (by omega)⟩
        have hfz := ho.frozenAt (i * 2)
        have hfz2 := ho.frozenAt (i * 2 + 1)
        obtain ⟨o1, g1⟩ := ho.stored (i * 2) (.int .i64 (k + 2 * i))
        obtain ⟨o2, g2⟩ := o1.stored (i * 2 + 1) (.int .i64 (k + 2 * i + 1))
        rw [fset (fmarks k i) vs i (k + 2 * i, k + 2 * i + 1) (fmarks_length k i) (by omega), ← fmarks_succ] at o2
        have HST := Lib.hid o2
        have hgr' := Lib.hid (gtrans (gtrans hgr g1) g2)
        clear o1 o2 g1 g2 ho hgr hn' hlen
        go_wp2
        go_roundw
        case rel => exact ⟨i + 1, by omega, by go_num, by go_num, HST.out, hgr'.out⟩
        case measure => simp [intOf]; omega
      · obtain rfl : i = n := by omega
        have ho' := Lib.hid ho
        have hgr' := Lib.hid hgr
        have hd := Lib.hid (List.drop_of_length_le (l := vs) (i := i * 2) (by omega))
        clear ho hgr hn'
        go_wp2
        go_ret
        exact ⟨rfl, by have := ho'.out; rw [hd.out, List.append_nil] at this; exact this, hgr'.out⟩

theorem hold4 {W w' w : World} {a b c d : Addr} {u v y z : Value} (hb : Below W.heap.size W w') (h : ((W.cell? a = some u ∧ W.cell? b = some v) ∧ (W.cell? c = some y ∧ W.cell? d = some z)) ∧ Below w.heap.size w W) :
    ((w'.cell? a = some u ∧ w'.cell? b = some v) ∧ (w'.cell? c = some y ∧ w'.cell? d = some z)) ∧ Below w.heap.size w w' := ⟨⟨⟨kc hb h.1.1.1, kc hb h.1.1.2⟩, kc hb h.1.2.1, kc hb h.1.2.2⟩, bthen h.2 hb⟩

set_option maxRecDepth 100000 in
set_option maxHeartbeats 2000000 in
theorem eqFuncS_same {b1 b2 : Nat} {s1 s2 : Value} {xs : List (Int × Int)} (hl : xs.length ≤ 100000000) (w : World) (h1 : OwnsF w b1 s1 xs) (h2 : OwnsF w b2 s2 xs) :
    Calls Try.prog 71 #[s1, s2] w fun e w' => e = .returned (.bool true) ∧ Below w.heap.size w w' := by
  rcases h1.shape with ⟨rfl, a, cap, rfl⟩ | ⟨hn, g, cap, rfl, _, hg, hc, _⟩
  · rcases h2.shape with ⟨_, a', cap', rfl⟩ | ⟨hn, _⟩
    · go_enter Try.func71, Try.ntmps71
      go_wp2
      refine wp_loop_rounds 1 ?_
      rw [rounds_succ]
      go_wp2
      go_ret
      exact ⟨rfl, Below.refl _ _⟩
    · simp at hn
  · rcases h2.shape with ⟨h0, _⟩ | ⟨_, g', cap', rfl, _, hg', hc', _⟩
    · rw [h0] at hn; simp at hn
    · clear h1 h2
      generalize xs.length = n at hl hn hc hc' ⊢
      go_enter Try.func71, Try.ntmps71
      go_wp2
      go_loopw [5] (fun i wr => ∃ k : Nat, k ≤ n ∧ i = .int .i64 k ∧ Below w.heap.size w wr) (fun i _ => n - (intOf i).toNat)
      case atStart => exact ⟨0, Nat.zero_le _, rfl, Below.refl _ _⟩
      case round =>
        obtain ⟨k, hk, rfl, hB⟩ := hrel
        by_cases hlt : k < n
        · obtain ⟨c0, c1⟩ := hc.out k hlt
          obtain ⟨c2, c3⟩ := hc'.out k hlt
          have d0 := (hB.cell (p := ⟨g, k * 2, none⟩) hg).trans c0
          have d1 := (hB.cell (p := ⟨g, k * 2 + 1, none⟩) hg).trans c1
          have d2 := (hB.cell (p := ⟨g', k * 2, none⟩) hg').trans c2
          have d3 := (hB.cell (p := ⟨g', k * 2 + 1, none⟩) hg').trans c3
          clear c0 c1 c2 c3
          have i0 : (0 : Int) ≤ (k : Int) := by omega
          have i1 : ((k : Int) < (n : Int)) := by omega
          go_wp2
          go_region_held3 (fun w' => ((w'.cell? ⟨g, k * 2, none⟩ = some (.int .i64 (fget xs k).1) ∧ w'.cell? ⟨g, k * 2 + 1, none⟩ = some (.int .i64 (fget xs k).2)) ∧ (w'.cell? ⟨g', k * 2, none⟩ = some (.int .i64 (fget xs k).1) ∧ w'.cell? ⟨g', k * 2 + 1, none⟩ = some (.int .i64 (fget xs k).2))) ∧ Below w.heap.size w w') (first | exact ⟨⟨⟨d0, d1⟩, d2, d3⟩, hB.drew⟩ | exact hold4 hb1 (by assumption))
            (first
              | (go_at_call 161; refine (eqFunc_same _ _ _).mono ?_; rintro e w' ⟨rfl, hb1⟩))
          go_wp2
          go_roundw
          case rel => exact ⟨k + 1, by omega, by go_num, (‹(_ ∧ _) ∧ Below _ _ _›).2⟩
          case measure => simp [intOf]; omega
        · obtain rfl : k = n := by omega
          go_wp2
          go_ret
          exact ⟨rfl, hB⟩
end Go.Proofs.Ytbdhlokbpbiijaa

/- M2:
  A list of functions that came in, copied. -/
namespace Go.Proofs.Ytbdhlokbpbiijaa
open Go.RowKit

/-- A slice of structs of two numbers that came in: its numbers are zs. -/
def IsRowF (w : World) (a : Option Addr) (len : Nat) (zs : List (Int × Int)) : Prop :=
  zs.length = len ∧ len ≤ 9223372036854775807 ∧ (len = 0 ∨ ∃ b off, a = some ⟨b, off, none⟩ ∧ b < w.heap.size ∧ Hid (∀ j, j < len → w.cell? ⟨b, off + j * 2, none⟩ = some (.int .i64 (fget zs j).1) ∧ w.cell? ⟨b, off + j * 2 + 1, none⟩ = some (.int .i64 (fget zs j).2)))

/-- A post with 'there is a list of functions'. -/
def FListPost (base : Nat) (xs : List (Int × Int)) (w : World) (e : Ending) (w' : World) : Prop := ∃ s, e = .returned s ∧ OwnsF w' base s xs ∧ Below w.heap.size w w'
def FListCodePost (base : Nat) (xs : List (Int × Int)) (c : Int) (w : World) (e : Ending) (w' : World) : Prop := ∃ s, e = .returned (.tuple #[s, .int .i64 c]) ∧ OwnsF w' base s xs ∧ Below w.heap.size w w'

set_option maxRecDepth 100000 in
set_option maxHeartbeats 2000000 in
theorem toFuncS_any {a : Option Addr} {len cap : Nat} {zs : List (Int × Int)} {w0 : World} (h : IsRowF w0 a len zs) (hl : len ≤ 1048576) (w : World) (hw : Below w0.heap.size w0 w) :
    Calls Try.prog 68 #[.slice a len cap] w (FListPost w.heap.size zs w) := by
  obtain ⟨i0, hi, hz0, hz1, hz2⟩ := info_parts infoF
  obtain ⟨hzl, _, h0 | ⟨b, off, rfl, hb, hc⟩⟩ := h
  · subst h0
    obtain rfl : zs = [] := List.length_eq_zero_iff.1 hzl
    go_enter Try.func68, Try.ntmps68
    go_wp2_with (at_make; refine wpList_make_full _ rfl _ _ 63 rfl w.heap.size 25 i0 (.agg #[.int .i64 0, .int .i64 0]) 2 Try.underlying63 hi hz0 hz1 .i64 .i64 _ _ 0 rfl rfl rfl rfl (by rw [hz2]; decide) (by decide) (Nat.le_refl _) ?_; intro w1 hown1 hgrow1)
    have hB : Below w.heap.size w w1 := (Below.refl _ _).grown hgrow1 (Nat.le_refl _) (fun j e => by cases e)
    generalize (madeCells (Value.agg #[.int .i64 0, .int .i64 0]).cells (0 * 2)).toList = vs at hown1
    obtain rfl : vs = [] := List.length_eq_zero_iff.1 (by simpa using hown1.1)
    have ho := Lib.hid hown1
    clear hown1 hgrow1
    refine wp_loop_rounds 1 ?_
    rw [rounds_succ]
    go_wp2
    go_ret
    refine ⟨.slice (some ⟨w.heap.size, 0, none⟩) 0 0, rfl, ?_, hB⟩
    exact ho.out
  · go_enter Try.func68, Try.ntmps68
    go_wp2_with (at_make; refine wpList_make_full _ rfl _ _ 63 rfl w.heap.size 25 i0 (.agg #[.int .i64 0, .int .i64 0]) 2 Try.underlying63 hi hz0 hz1 .i64 .i64 _ _ len rfl rfl rfl rfl (by rw [hz2]; omega) (by unfold maxLen; omega) (Nat.le_refl _) ?_; intro w1 hown1 hgrow1)
    have hB : Below w.heap.size w w1 := (Below.refl _ _).grown hgrow1 (Nat.le_refl _) (fun j e => by cases e)
    have hvl := hown1.1
    generalize (madeCells (Value.agg #[.int .i64 0, .int .i64 0]).cells (len * 2)).toList = vs at hown1 hvl
    clear hgrow1
    go_loopw [4] (fun i' wr => ∃ i : Nat, i ≤ len ∧ i' = .int .i64 i ∧ wr.ownsRow w.heap.size 25 2 (.slice (some ⟨w.heap.size, 0, none⟩) len len) len (fcells (zs.take i) ++ vs.drop (i * 2)) ∧ Below w.heap.size w wr) (fun i' _ => len - (intOf i').toNat)
    case atStart => exact ⟨0, Nat.zero_le _, rfl, by simpa [fcells] using hown1, hB⟩
    case round =>
      clear hown1 hB
      obtain ⟨i, hi', rfl, ho, hN⟩ := hrel
      by_cases hlt : i < len
      · have hs := hw.size
        obtain ⟨c0, c1⟩ := hc.out i hlt
        have s0 := ((hN.cell (p := ⟨b, off + i * 2, none⟩) (by show b < w.heap.size; omega)).trans (hw.cell (p := ⟨b, off + i * 2, none⟩) hb)).trans c0
        have s1 := ((hN.cell (p := ⟨b, off + i * 2 + 1, none⟩) (by show b < w.heap.size; omega)).trans (hw.cell (p := ⟨b, off + i * 2 + 1, none⟩) hb)).trans c1
        clear c0 c1
        have hHO := Lib.hid ho
        clear ho
        go_wp2_with fail
        refine (toFunc_any (fget zs i).1 (fget zs i).2 _).mono ?_
        rintro e w2 ⟨rfl, hb2⟩
        have hN2 := bthen hN hb2
        have ho : w2.ownsRow w.heap.size 25 2 (.slice (some ⟨w.heap.size, 0, none⟩) len len) len (fcells (zs.take i) ++ vs.drop (i * 2)) := by
          obtain ⟨h1, h2 | ⟨g, cap, cur, e1, e2, e3, r⟩⟩ := hHO.out
          · exact ⟨h1, .inl h2⟩
          · exact ⟨h1, .inr ⟨g, cap, cur, e1, e2, (hb2.block g (Array.getElem?_eq_some_iff.1 e3).1).trans e3, r⟩⟩
        have hlen : (fcells (zs.take i) ++ vs.drop (i * 2)).length = len * 2 := by rw [List.length_append, fcells_length, List.length_take, List.length_drop]; omega
        obtain ⟨u, hu⟩ : ∃ u, w2.cell? ⟨w.heap.size, i * 2, none⟩ = some u := by
          rw [ho.cellAt (i * 2) (by omega)]
          exact ⟨_, List.getElem?_eq_getElem (by omega)⟩
        obtain ⟨u2, hu2⟩ : ∃ u, w2.cell? ⟨w.heap.size, i * 2 + 1, none⟩ = some u := by
          rw [ho.cellAt (i * 2 + 1) (by omega)]
          exact ⟨_, List.getElem?_eq_getElem (by omega)⟩
        have hfz := ho.frozenAt (i * 2)
        have hfz2 := ho.frozenAt (i * 2 + 1)
        obtain ⟨o1, g1⟩ := ho.stored (i * 2) (.int .i64 (fget zs i).1)
        obtain ⟨o2, g2⟩ := o1.stored (i * 2 + 1) (.int .i64 (fget zs i).2)
        rw [fset (zs.take i) vs i (fget zs i) (by rw [List.length_take]; omega) (by omega), ← ftake_snoc zs i (by omega)] at o2
        have HST := Lib.hid o2
        clear o1 o2 g1 g2 ho hvl hlen hHO s0 s1
        go_wp2
        go_roundw
        case rel => exact ⟨i + 1, by omega, by go_num, HST.out, (hN2.setCell (p := ⟨w.heap.size, i * 2, none⟩) (Nat.le_refl _) _).setCell (p := ⟨w.heap.size, i * 2 + 1, none⟩) (Nat.le_refl _) _⟩
        case measure => simp [intOf]; omega
      · obtain rfl : i = len := by omega
        have ho' := Lib.hid ho
        have hd := Lib.hid (List.drop_of_length_le (l := vs) (i := i * 2) (by omega))
        have ht := Lib.hid (List.take_of_length_le (l := zs) (i := i) (by omega))
        have hll := Lib.hid hzl
        clear ho hvl hzl
        go_wp2
        go_ret
        refine ⟨_, rfl, ?_, hN⟩
        unfold OwnsF
        rw [hll.out]
        have := ho'.out
        rw [hd.out, List.append_nil, ht.out] at this
        exact this

/-- From what is told of a slice of structs at each place. -/
theorem isRowF_mk {w : World} {x : Addr} {len : Nat} (hl : len ≤ 9223372036854775807) (h : ∀ i, i < len → ∃ q : Int × Int, w.cell? (x.add (i * 2)) = some (.int .i64 q.1) ∧ w.cell? (x.add (i * 2 + 1)) = some (.int .i64 q.2)) : ∃ zs, IsRowF w (some x) len zs := by
  obtain ⟨q, hq⟩ := Go.Deep.choose_lt h
  refine ⟨(List.range len).map q, by simp, hl, ?_⟩
  by_cases h0 : len = 0
  · exact .inl h0
  · obtain ⟨b, off, spot⟩ := x
    have hc0 := (hq 0 (by omega)).1
    have hs : spot = none := by simpa [Addr.add] using World.cell?_spot hc0
    subst hs
    have hb : b < w.heap.size := cell_lt (a := ⟨b, off, none⟩) (by simpa [Addr.add] using hc0)
    refine .inr ⟨b, off, rfl, hb, Lib.hid fun j hj => ?_⟩
    have e : ∀ k, Addr.add ⟨b, off, none⟩ k = ⟨b, off + k, none⟩ := fun k => by cases k <;> simp [Addr.add]
    obtain ⟨h1, h2⟩ := hq j hj
    rw [e] at h1 h2
    have hg : fget ((List.range len).map q) j = q j := by simp [fget, hj]
    rw [hg]
    exact ⟨h1, h2⟩
end Go.Proofs.Ytbdhlokbpbiijaa

/- M4:
  Appending a function to a list of functions. -/
namespace Go.Proofs.Ytbdhlokbpbiijaa
open Go.RowKit

theorem cell_two_new (W : World) (a b : Value) (t : TypeId) : ∀ (j : Nat) (u : Value), [a, b][j]? = some u → (W.alloc (.cells #[a, b] t)).cell? ((⟨W.heap.size, 0, none⟩ : Addr).add j) = some u := by
  intro j u h
  match j, h with
  | 0, h => simp at h; subst h; simp [go_sem, Addr.add]
  | 1, h => simp at h; subst h; simp [go_sem, Addr.add]
theorem one_cell_two (n x : Int) : ∀ u ∈ [Value.int .i64 n, Value.int .i64 x], u.oneCell' = true := by
  intro u hu
  simp at hu
  rcases hu with rfl | rfl <;> rfl
theorem OwnsF.snoc {W : World} {base : Nat} {s : Value} {xs : List (Int × Int)} {n x : Int} (h : W.ownsRow base 25 2 s (xs.length + 1) (fcells xs ++ [.int .i64 n, .int .i64 x])) : OwnsF W base s (xs ++ [(n, x)]) := by
  unfold OwnsF
  rw [fcells_snoc, List.length_append]
  exact h
end Go.Proofs.Ytbdhlokbpbiijaa

/- MO5:
  leastTrueRows of the program. -/
namespace Go.Proofs.Ytbdhlokbpbiijaa
open Go.RowKit Go.Shelf
attribute [local go_sem] Oper.semAt_some
set_option linter.unusedVariables false
set_option linter.unusedSimpArgs false

/-- .. those found so far. -/
def ltrF {R : Nat} (x : Nat) (pre : List (Row R)) : List Nat := pre.foldl (fun l y => if (bitN x y.1 == 1 && !abv y.1 l) = true then l ++ [y.1] else l) []
theorem ltrF_snoc {R : Nat} (x : Nat) (pre : List (Row R)) (y : Row R) : ltrF x (pre ++ [y]) = if (bitN x y.1 == 1 && !abv y.1 (ltrF x pre)) = true then ltrF x pre ++ [y.1] else ltrF x pre := by simp [ltrF, List.foldl_append]
theorem ltrF_len {R : Nat} (x : Nat) (l : List (Row R)) : (ltrF x l.reverse).length ≤ l.length := by
  induction l with
  | nil => exact Nat.le_refl _
  | cons y l ih =>
    rw [List.reverse_cons, ltrF_snoc]
    split
    · rw [List.length_append]; simp; exact ih
    · simp; omega
theorem ltrF_le {R : Nat} (x : Nat) (pre : List (Row R)) : (ltrF x pre).length ≤ pre.length := by
  have := ltrF_len x pre.reverse
  rwa [List.reverse_reverse, List.length_reverse] at this
theorem ltrF_lt' {R : Nat} (x : Nat) (l : List (Row R)) : ∀ o ∈ ltrF x l.reverse, o < R := by
  induction l with
  | nil => intro o ho; cases ho
  | cons y l ih =>
    intro o ho
    rw [List.reverse_cons, ltrF_snoc] at ho
    split at ho
    · rw [List.mem_append] at ho
      rcases ho with h | h
      · exact ih o h
      · have : o = y.1 := by simpa using h
        rw [this]; exact y.2
    · exact ih o ho
theorem ltrF_lt {R : Nat} (x : Nat) (pre : List (Row R)) : ∀ o ∈ ltrF x pre, o < R := by
  have := ltrF_lt' x pre.reverse
  rwa [List.reverse_reverse] at this
theorem ltrF_upto {R : Nat} (hR : 0 < R) (x k : Nat) (hk : k ≤ R) : ltrF x (upto hR k) = ltr x k := by
  induction k with
  | zero => rfl
  | succ k ih => rw [upto_succ, ltrF_snoc, ih (by omega), rowAt_val hR (by omega), ltr]

end Go.Proofs.Ytbdhlokbpbiijaa

/- K9:
  The classes in the model: the affine ones; all of them by number. -/
namespace Go.Proofs.Ytbdhlokbpbiijaa
open Go.RowKit

/-- The rows below j change by the variable v as the row 0 does. -/
def altTo (x v j : Nat) : Bool := allLt j fun i => alt1 x v i
theorem altTo_succ (x v j : Nat) : altTo x v (j + 1) = (altTo x v j && alt1 x v j) := allLt_succ _ _
def altVars (R x k : Nat) : Bool := allLt k fun v => altTo x v R
theorem altVars_succ (R x k : Nat) : altVars R x (k + 1) = (altVars R x k && altTo x k R) := allLt_succ _ _
theorem altVars_false {R x v i m : Nat} (hv : v < m) (hi : i < R) (h : alt1 x v i = false) : altVars R x m = false := by
  cases hc : altVars R x m
  · rfl
  · have := allLt_iff.1 (allLt_iff.1 hc v hv) i hi
    rw [h] at this
    cases this

theorem neq_nat (a b : Nat) : ((a : Int) != (b : Int)) = (a != b) := by
  rw [Bool.eq_iff_iff]
  simp
  omega
theorem bool_neq (a b : Bool) : (a != b) = !(a == b) := by cases a <;> cases b <;> rfl

set_option maxRecDepth 100000 in
set_option maxHeartbeats 4000000 in
theorem l02In_4 {n : Int} {x R : Nat} (ok : FOk n x R) (w : World) :
    Calls Try.prog 227 #[.agg #[.int .i64 n, .int .i64 (x : Int)], .int .i64 4] w fun e w' => e = .returned (.bool (cls4 n.toNat x R)) ∧ Below w.heap.size w w' := by
  have r0 := ok.r0
  have r16 := ok.r16
  have h4 := ok.h4
  have h0 := ok.h0
  show Calls _ _ _ _ fun e w' => e = .returned (.bool (altVars R x n.toNat)) ∧ Below w.heap.size w w'
  obtain ⟨W1, hW1⟩ : ∃ W1, w.alloc (.cells #[.int .i64 n, .int .i64 (x : Int)] 25) = W1 := ⟨_, rfl⟩
  have p0 : W1.cell? ⟨w.heap.size, 0, none⟩ = some (.int .i64 n) := by rw [← hW1]; simp [go_sem]
  have p1 : W1.cell? ⟨w.heap.size, 1, none⟩ = some (.int .i64 (x : Int)) := by rw [← hW1]; simp [go_sem]
  have hB : Below w.heap.size w W1 := by rw [← hW1]; exact bnew _ _
  go_enter Try.func227, Try.ntmps227
  go_wp2_with (go_at_call 116; refine (l01Rows_is ok.h0 ok.h4 ok.hR _).mono ?_; rintro e w' ⟨rfl, rfl⟩)
  clear hW1
  go_loopw [10] (fun v' wr => ∃ k : Nat, (k : Int) ≤ n ∧ v' = .int .i64 k ∧ Hid (altVars R x k = true) ∧ ((wr.cell? ⟨w.heap.size, 0, none⟩ = some (.int .i64 n) ∧ wr.cell? ⟨w.heap.size, 1, none⟩ = some (.int .i64 (x : Int))) ∧ Below w.heap.size w wr))
    (fun v' _ => (n - intOf v').toNat)
  case atStart => exact ⟨0, by omega, rfl, Lib.hid rfl, ⟨p0, p1⟩, hB⟩
  case round =>
    clear p0 p1 hB
    obtain ⟨k, hk, rfl, hm, ⟨p0, p1⟩, hB⟩ := hrel
    obtain ⟨wo, rfl⟩ : ∃ wo : World, wo = wr := ⟨_, rfl⟩
    by_cases hlt : (k : Int) < n
    · obtain ⟨hw, hI⟩ := pow_bits k (by omega)
      have hP16 : 2 ^ k < 16 := Nat.pow_lt_pow_right (n := 4) (by decide) (by omega)
      generalize hp : (2 : Nat) ^ k = P at hw hI hP16
      have HP := Lib.hid hp
      have HI := Lib.hid hI
      clear hp hI
      go_wp2
      go_region_held3 (fun w' => (w'.cell? ⟨w.heap.size, 0, none⟩ = some (.int .i64 n) ∧ w'.cell? ⟨w.heap.size, 1, none⟩ = some (.int .i64 (x : Int))) ∧ Below w.heap.size w w') (first | exact ⟨⟨p0, p1⟩, hB.drew⟩ | exact step_held2 hb1 (by assumption))
        (first
          | (go_at_call 115; refine (l01At_int ok _ (by omega) (by omega) _).mono ?_; rintro e w' ⟨rfl, hb1⟩))
      obtain ⟨⟨q0, q1⟩, hB2⟩ := ‹(_ ∧ _) ∧ Below _ _ _›
      clear p0 p1 hB
      go_wp2
      have hc : ((bitI x 0 : Int) != (bitI x (P : Int) : Int)) = (bitN x 0 != bitN x (2 ^ k)) := by rw [HP.out, neq_nat]; rfl
      generalize ((bitI x 0 : Int) != (bitI x (P : Int) : Int)) = c at hc ⊢
      have HC := Lib.hid hc
      clear hc
      obtain ⟨wi, hwi⟩ : ∃ wi : World, wi = w' := ⟨_, rfl⟩
      subst hwi
      go_loopw [13] (fun i' wr => ∃ i : Nat, i ≤ R ∧ i' = .int .i64 i ∧ Hid (altTo x k i = true) ∧ ((wr.cell? ⟨w.heap.size, 0, none⟩ = some (.int .i64 n) ∧ wr.cell? ⟨w.heap.size, 1, none⟩ = some (.int .i64 (x : Int))) ∧ Below w.heap.size w wr))
        (fun i' _ => R - (intOf i').toNat)
      case atStart => exact ⟨0, by omega, rfl, Lib.hid rfl, ⟨q0, q1⟩, hB2⟩
      case round =>
        clear q0 q1 hB2
        obtain ⟨i, hi, rfl, hu, ⟨p0, p1⟩, hB⟩ := hrel
        by_cases hlti : i < R
        · obtain ⟨_, _, hx, _, hx16⟩ := HI.out i (by omega)
          have hne : ((bitI x (i : Int) : Int) != (bitI x ((i ^^^ P : Nat) : Int) : Int)) = (bitN x i != bitN x (i ^^^ P)) := neq_nat _ _
          have hal : alt1 x k i = ((bitN x i != bitN x (i ^^^ P)) == c) := by rw [HC.out, ← HP.out]; rfl
          generalize (bitN x i != bitN x (i ^^^ P)) = d at hne hal
          cases c
          · cases d
            · have HU := Lib.hid (show altTo x k (i + 1) = true by rw [altTo_succ, hu.out, hal]; rfl)
              clear hal
              go_wp2
              go_region_held3 (fun w' => (w'.cell? ⟨w.heap.size, 0, none⟩ = some (.int .i64 n) ∧ w'.cell? ⟨w.heap.size, 1, none⟩ = some (.int .i64 (x : Int))) ∧ Below w.heap.size w w') (first | exact ⟨⟨p0, p1⟩, hB.drew⟩ | exact step_held2 hb1 (by assumption))
                (first
                  | (go_at_call 115; refine (l01At_int ok _ (by omega) (by omega) _).mono ?_; rintro e w' ⟨rfl, hb1⟩))
              go_wp2
              go_roundw
              case rel => exact ⟨i + 1, by omega, by go_num, HU, ‹(_ ∧ _) ∧ Below _ _ _›⟩
              case measure => simp [intOf]; omega
            · have HU := Lib.hid (altVars_false (v := k) (m := n.toNat) (by omega) hlti (by rw [hal]; rfl))
              clear hal
              go_wp2
              go_region_held3 (fun w' => (w'.cell? ⟨w.heap.size, 0, none⟩ = some (.int .i64 n) ∧ w'.cell? ⟨w.heap.size, 1, none⟩ = some (.int .i64 (x : Int))) ∧ Below w.heap.size w w') (first | exact ⟨⟨p0, p1⟩, hB.drew⟩ | exact step_held2 hb1 (by assumption))
                (first
                  | (go_at_call 115; refine (l01At_int ok _ (by omega) (by omega) _).mono ?_; rintro e w' ⟨rfl, hb1⟩))
              go_wp2
              go_ret
              exact ⟨by rw [HU.out]; rfl, (‹(_ ∧ _) ∧ Below _ _ _›).2⟩
          · cases d
            · have HU := Lib.hid (altVars_false (v := k) (m := n.toNat) (by omega) hlti (by rw [hal]; rfl))
              clear hal
              go_wp2
              go_region_held3 (fun w' => (w'.cell? ⟨w.heap.size, 0, none⟩ = some (.int .i64 n) ∧ w'.cell? ⟨w.heap.size, 1, none⟩ = some (.int .i64 (x : Int))) ∧ Below w.heap.size w w') (first | exact ⟨⟨p0, p1⟩, hB.drew⟩ | exact step_held2 hb1 (by assumption))
                (first
                  | (go_at_call 115; refine (l01At_int ok _ (by omega) (by omega) _).mono ?_; rintro e w' ⟨rfl, hb1⟩))
              go_wp2
              go_ret
              exact ⟨by rw [HU.out]; rfl, (‹(_ ∧ _) ∧ Below _ _ _›).2⟩
            · have HU := Lib.hid (show altTo x k (i + 1) = true by rw [altTo_succ, hu.out, hal]; rfl)
              clear hal
              go_wp2
              go_region_held3 (fun w' => (w'.cell? ⟨w.heap.size, 0, none⟩ = some (.int .i64 n) ∧ w'.cell? ⟨w.heap.size, 1, none⟩ = some (.int .i64 (x : Int))) ∧ Below w.heap.size w w') (first | exact ⟨⟨p0, p1⟩, hB.drew⟩ | exact step_held2 hb1 (by assumption))
                (first
                  | (go_at_call 115; refine (l01At_int ok _ (by omega) (by omega) _).mono ?_; rintro e w' ⟨rfl, hb1⟩))
              go_wp2
              go_roundw
              case rel => exact ⟨i + 1, by omega, by go_num, HU, ‹(_ ∧ _) ∧ Below _ _ _›⟩
              case measure => simp [intOf]; omega
        · obtain rfl : i = R := by omega
          have HU := Lib.hid (show altVars i x (k + 1) = true by rw [altVars_succ, hm.out, hu.out]; rfl)
          go_wp2
          go_roundw
          case rel => exact ⟨k + 1, by omega, by go_num, HU, ⟨p0, p1⟩, hB⟩
          case measure => simp [intOf]; omega
    · obtain hkn : n.toNat = k := by omega
      have HM := Lib.hid (show altVars R x n.toNat = true by rw [hkn]; exact hm.out)
      clear hkn
      go_wp2
      go_ret
      exact ⟨by rw [HM.out]; rfl, hB⟩

theorem l02In_is {n : Int} {x R : Nat} (ok : FOk n x R) (k : Nat) (hk : k ≤ 4) {b : Bool} (hb : clsN n.toNat x R k = b) (w : World) :
    Calls Try.prog 227 #[.agg #[.int .i64 n, .int .i64 (x : Int)], .int .i64 (k : Int)] w fun e w' => e = .returned (.bool b) ∧ Below w.heap.size w w' := by
  subst hb
  obtain rfl | rfl | rfl | rfl | rfl : k = 0 ∨ k = 1 ∨ k = 2 ∨ k = 3 ∨ k = 4 := by omega
  · exact l02In_0 ok w
  · exact l02In_1 ok w
  · exact l02In_2 ok w
  · exact l02In_3 ok w
  · exact l02In_4 ok w
end Go.Proofs.Ytbdhlokbpbiijaa

/- KIn:
  IsInClass in both packages. -/
namespace Go.Proofs.Ytbdhlokbpbiijaa
open Go.RowKit

end Go.Proofs.Ytbdhlokbpbiijaa

/- M3:
  The classes of a part of a list in the model: l02Classes; l02Sheffer. -/
namespace Go.Proofs.Ytbdhlokbpbiijaa
open Go.RowKit

/-- What a valid function is, at numbers told as integers. -/
theorem fokP {p : Int × Int} (h : isF p.1 p.2 = true) : ∃ x R : Nat, p.2 = (x : Int) ∧ R = 2 ^ p.1.toNat ∧ FOk p.1 x R := by
  obtain ⟨x, R, e, ok⟩ := fok h
  exact ⟨x, R, e, ok.he, ok⟩
/-- Whether a function that is told as two integers is in the class k. -/
def clsP (p : Int × Int) (k : Nat) : Bool := clsN p.1.toNat p.2.toNat (2 ^ p.1.toNat) k
theorem l02In_p {p : Int × Int} (h : isF p.1 p.2 = true) (k : Nat) (hk : k ≤ 4) {b : Bool} (hb : clsP p k = b) (w : World) :
    Calls Try.prog 227 #[.agg #[.int .i64 p.1, .int .i64 p.2], .int .i64 (k : Int)] w fun e w' => e = .returned (.bool b) ∧ Below w.heap.size w w' := by
  obtain ⟨x, R, e, he, ok⟩ := fokP h
  rw [e]
  refine l02In_is ok k hk ?_ w
  rw [← hb, clsP, e, he]
  rfl

/-- All functions of a list are functions. -/
def AreF (xs : List (Int × Int)) : Prop := ∀ j, j < xs.length → isF (fget xs j).1 (fget xs j).2 = true

/-- Whether the functions of a part, of those below j, are in the class k. -/
def partTo (xs : List (Int × Int)) (part k j : Nat) : Bool := allLt j fun i => bitN part i == 0 || clsP (fget xs i) k
theorem partTo_succ (xs : List (Int × Int)) (part k j : Nat) : partTo xs part k (j + 1) = (partTo xs part k j && (bitN part j == 0 || clsP (fget xs j) k)) := allLt_succ _ _
def partV (xs : List (Int × Int)) (part k : Nat) : Nat := (partTo xs part k xs.length).toNat
theorem partV_le (xs : List (Int × Int)) (part k : Nat) : partV xs part k ≤ 1 := by unfold partV; cases partTo xs part k xs.length <;> decide
/-- The classes of a part, as a number. -/
def partN (xs : List (Int × Int)) (part : Nat) : Nat := sumN (partV xs part) 5

theorem part_digit (x i : Nat) (hx : x < 2 ^ 62) : ((bits .and .i64 ((x : Int) / 2 ^ i) 1) == 0) = (bitN x i == 0) := by
  rw [digit_eq x i hx, Bool.eq_iff_iff]
  simp

set_option maxRecDepth 100000 in
set_option maxHeartbeats 4000000 in
theorem l02Classes_any {base : Nat} {s : Value} {xs : List (Int × Int)} (hl : xs.length ≤ 1048576) (hx : AreF xs) (part : Nat) (hp : part < 2 ^ 62) (hp2 : xs.length ≤ 61) (w : World) (h : OwnsF w base s xs) :
    Calls Try.prog 199 #[s, .int .i64 (part : Int)] w fun e w' => e = .returned (.int .i64 (partN xs part : Int)) ∧ Below w.heap.size w w' := by
  obtain ⟨a, cap, hs, hrow⟩ : ∃ a cap, s = .slice a xs.length cap ∧ (xs.length = 0 ∨ ∃ g, a = some ⟨g, 0, none⟩ ∧ g < w.heap.size ∧ Hid (∀ j, j < xs.length → w.cell? ⟨g, j * 2, none⟩ = some (.int .i64 (fget xs j).1) ∧ w.cell? ⟨g, j * 2 + 1, none⟩ = some (.int .i64 (fget xs j).2))) := by
    rcases h.shape with ⟨rfl, a, cap, rfl⟩ | ⟨hn, g, cap, rfl, hbg, hg, hc, hf⟩
    · exact ⟨a, cap, rfl, .inl rfl⟩
    · exact ⟨_, cap, rfl, .inr ⟨g, rfl, hg, hc⟩⟩
  subst hs
  clear h
  have HX := Lib.hid hx
  clear hx
  have hlen : xs.length = xs.length := rfl
  clear hlen
  generalize hL : xs.length = L at hl hp2 hrow
  have HL := Lib.hid hL
  clear hL
  have HROW := Lib.hid hrow
  clear hrow
  go_enter Try.func199, Try.ntmps199
  go_wp2
  go_loopw [5, 6] (fun o' k' wr => ∃ k : Nat, k ≤ 5 ∧ k' = .int .i64 k ∧ o' = .int .i64 (sumN (partV xs part) k : Int) ∧ Below w.heap.size w wr)
    (fun _ k' _ => 5 - (intOf k').toNat)
  case atStart => exact ⟨0, by omega, rfl, rfl, Below.refl _ _⟩
  case round =>
    obtain ⟨k, hk, rfl, rfl, hB⟩ := hrel
    obtain ⟨wo, rfl⟩ : ∃ wo : World, wo = wr := ⟨_, rfl⟩
    by_cases hlt : k < 5
    · have hd5 : decide ((k : Int) < 5) = true := by simp; omega
      go_wp2
      clear hd5
      go_loopw [7, 8] (fun a' i' wr => ∃ i : Nat, i ≤ L ∧ i' = .int .i64 i ∧ a' = .bool (partTo xs part k i) ∧ Below w.heap.size w wr)
        (fun _ i' _ => L - (intOf i').toNat)
      case atStart => exact ⟨0, by omega, rfl, rfl, hB⟩
      case round =>
        clear hB
        obtain ⟨i, hi, rfl, rfl, hB⟩ := hrel
        by_cases hlti : i < L
        · obtain ⟨g, rfl, hg, hc⟩ : ∃ g, a = some ⟨g, 0, none⟩ ∧ g < w.heap.size ∧ Hid (∀ j, j < L → w.cell? ⟨g, j * 2, none⟩ = some (.int .i64 (fget xs j).1) ∧ w.cell? ⟨g, j * 2 + 1, none⟩ = some (.int .i64 (fget xs j).2)) := by
            rcases HROW.out with h0 | h1
            · omega
            · exact h1
          obtain ⟨c0, c1⟩ := hc.out i hlti
          have d0 := (hB.cell (p := ⟨g, i * 2, none⟩) hg).trans c0
          have d1 := (hB.cell (p := ⟨g, i * 2 + 1, none⟩) hg).trans c1
          clear c0 c1
          have hs := partTo_succ xs part k i
          have hb := part_digit part i hp
          cases ha : partTo xs part k i
          · rw [ha] at hs
            have HS := Lib.hid hs
            clear hs ha hb
            go_wp2
            go_roundw
            case rel => exact ⟨i + 1, by omega, by go_num, by rw [HS.out]; rfl, hB⟩
            case measure => simp [intOf]; omega
          · rw [ha] at hs
            cases hd : bitN part i == 0
            · rw [hd] at hs hb
              cases hq : clsP (fget xs i) k
              · rw [hq] at hs
                have HS := Lib.hid hs
                have HQ := Lib.hid hq
                have hF := Lib.hid (HX.out i (by have := HL.out; omega))
                clear hs ha hd hq
                go_wp2_with fail
                refine (l02In_p hF.out k (by omega) HQ.out _).mono ?_
                rintro e w2 ⟨rfl, hb2⟩
                go_wp2
                go_roundw
                case rel => exact ⟨i + 1, by omega, by go_num, by rw [HS.out]; rfl, bthen hB hb2⟩
                case measure => simp [intOf]; omega
              · rw [hq] at hs
                have HS := Lib.hid hs
                have HQ := Lib.hid hq
                have hF := Lib.hid (HX.out i (by have := HL.out; omega))
                clear hs ha hd hq
                go_wp2_with fail
                refine (l02In_p hF.out k (by omega) HQ.out _).mono ?_
                rintro e w2 ⟨rfl, hb2⟩
                go_wp2
                go_roundw
                case rel => exact ⟨i + 1, by omega, by go_num, by rw [HS.out]; rfl, bthen hB hb2⟩
                case measure => simp [intOf]; omega
            · rw [hd] at hs hb
              have HS := Lib.hid hs
              clear hs ha hd
              go_wp2
              go_roundw
              case rel => exact ⟨i + 1, by omega, by go_num, by rw [HS.out]; rfl, hB⟩
              case measure => simp [intOf]; omega
        · obtain rfl : i = L := by omega
          cases ha : partTo xs part k i
          · have HS := Lib.hid (show sumN (partV xs part) (k + 1) = sumN (partV xs part) k by simp [sumN, partV, HL.out, ha])
            clear ha
            go_wp2
            go_roundw
            case rel => exact ⟨k + 1, by omega, by go_num, by rw [HS.out], hB⟩
            case measure => simp [intOf]; omega
          · have HS := Lib.hid (set_step (partV xs part) k (by omega) (fun r _ => partV_le _ _ r) (by simp [partV, HL.out, ha]))
            clear ha
            go_wp2
            go_roundw
            case rel => exact ⟨k + 1, by omega, by go_num, by rw [← HS.out], hB⟩
            case measure => simp [intOf]; omega
    · obtain rfl : k = 5 := by omega
      go_wp2
      go_ret
      exact ⟨rfl, hB⟩
end Go.Proofs.Ytbdhlokbpbiijaa

/- KSh:
  IsSheffer in both packages. -/
namespace Go.Proofs.Ytbdhlokbpbiijaa
open Go.RowKit

theorem sum_none (v : Nat → Nat) (k : Nat) : sumN v k = 0 ↔ ∀ r, r < k → v r = 0 := by
  induction k with
  | zero => simp [sumN]
  | succ k ih =>
    have hp : 0 < 2 ^ k := Nat.two_pow_pos k
    simp only [sumN]
    constructor
    · intro h r hr
      have h1 : sumN v k = 0 := by omega
      have h2 : v k * 2 ^ k = 0 := by omega
      by_cases e : r = k
      · subst e
        rcases Nat.mul_eq_zero.1 h2 with h3 | h3
        · exact h3
        · omega
      · exact ih.1 h1 r (by omega)
    · intro h
      rw [ih.2 (fun r hr => h r (by omega)), h k (by omega)]
      omega

theorem partTo_one (p : Int × Int) (k : Nat) : partTo [p] 1 k 1 = clsP p k := by
  rw [partTo_succ]
  have : (bitN 1 0 == 0) = false := by decide
  rw [this, Bool.false_or]
  rfl

theorem owns_one (W : World) (n x : Int) (g : Nat) (hg : g = W.heap.size) : OwnsF (W.alloc (.cells #[.int .i64 n, .int .i64 x] 25)) 0 (.slice (some ⟨g, 0, none⟩) 1 1) [(n, x)] := by
  subst hg
  exact World.ownsRow_lit W _ 1 (Nat.zero_le _) (by unfold maxLen; omega) rfl

theorem part_none {n : Int} {x R : Nat} (ok : FOk n x R) : ((partN [(n, (x : Int))] 1 : Int) == 0) = noneTo n.toNat x R 5 := by
  rw [Bool.eq_iff_iff]
  have h1 : ((partN [(n, (x : Int))] 1 : Int) == 0) = true ↔ partN [(n, (x : Int))] 1 = 0 := by simp
  rw [h1, partN, sum_none, noneTo, allLt_iff]
  have h2 : ∀ r, partV [(n, (x : Int))] 1 r = (clsN n.toNat x R r).toNat := fun r => by
    show (partTo [(n, (x : Int))] 1 r 1).toNat = _
    rw [partTo_one, clsP, ok.he]
    rfl
  constructor
  · intro h r hr
    have := h r hr
    rw [h2] at this
    cases hc : clsN n.toNat x R r
    · rfl
    · rw [hc] at this; cases this
  · intro h r hr
    rw [h2]
    have := h r hr
    cases hc : clsN n.toNat x R r
    · rfl
    · rw [hc] at this; cases this

theorem l02Classes_one {base : Nat} {s : Value} {p : Int × Int} (hx : isF p.1 p.2 = true) (w : World) (h : OwnsF w base s [p]) :
    Calls Try.prog 199 #[s, .int .i64 1] w fun e w' => e = .returned (.int .i64 (partN [p] 1 : Int)) ∧ Below w.heap.size w w' :=
  l02Classes_any (xs := [p]) (by simp) (fun j hj => by obtain rfl : j = 0 := by simpa using hj
                                                       exact hx) 1 (by decide) (by simp) w h

end Go.Proofs.Ytbdhlokbpbiijaa

/- KCo:
  CountInClass and CountSheffer in both packages. -/
namespace Go.Proofs.Ytbdhlokbpbiijaa
open Go.RowKit

/-- The functions of an arity: their rows, their number. -/
theorem arity_nums {n : Int} (h0 : 0 ≤ n) (h4 : n ≤ 4) : ∃ R T : Nat, 0 < R ∧ R ≤ 16 ∧ Hid (rowsN n = (R : Int)) ∧ Hid (T = 2 ^ R) ∧ 0 < T ∧ T ≤ 65536 ∧ Hid (allN n = (T : Int) - 1) ∧ ∀ x, x < T → FOk n x R := by
  obtain ⟨R, hR, r0, r16, he⟩ := rowsN_eq h0 h4
  have h16 : (2 : Nat) ^ R ≤ 2 ^ 16 := Nat.pow_le_pow_right (by decide) r16
  have hp : 0 < 2 ^ R := Nat.two_pow_pos R
  refine ⟨R, 2 ^ R, r0, r16, Lib.hid hR, Lib.hid rfl, hp, h16, Lib.hid ?_, fun x hx => ⟨h0, h4, r0, r16, Lib.hid hR, by omega, he, hx⟩⟩
  rw [allN_rows he]
  omega

theorem l01All_top {n : Int} {T : Nat} (h0 : 0 ≤ n) (h4 : n ≤ 4) (hA : Hid (allN n = (T : Int) - 1)) (w : World) :
    Calls Try.prog 123 #[.int .i64 n] w fun e w' => e = .returned (.int .i64 ((T : Int) - 1)) ∧ w = w' := hA.out ▸ l01All_any n h0 h4 w

end Go.Proofs.Ytbdhlokbpbiijaa

/- MO6:
  IsMonotone, LeastTrueRows, CountMonotone in both packages. -/
namespace Go.Proofs.Ytbdhlokbpbiijaa
open Go.RowKit
set_option linter.unusedVariables false
set_option linter.unusedSimpArgs false

/-- The monotone functions below k. -/
def monL (n : Int) (R k : Nat) : List (Int × Int) := ((List.range k).filter fun x => cls3 n.toNat x R).map fun (x : Nat) => (n, (x : Int))
theorem monL_yes (n : Int) (R k : Nat) (h : cls3 n.toNat k R = true) : monL n R (k + 1) = monL n R k ++ [(n, (k : Int))] := by simp [monL, List.range_succ, h]
theorem monL_no (n : Int) (R k : Nat) (h : cls3 n.toNat k R = false) : monL n R (k + 1) = monL n R k := by simp [monL, List.range_succ, h]
theorem monL_len (n : Int) (R k : Nat) : (monL n R k).length ≤ k := by
  unfold monL
  rw [List.length_map]
  exact Nat.le_trans (List.length_filter_le _ _) (by simp)
theorem monL_cnt (n : Int) (R k : Nat) : (monL n R k).length = cntTo (fun x => clsN n.toNat x R 3) k := by
  unfold monL cntTo
  rw [List.length_map, List.countP_eq_length_filter]
  rfl

theorem ownsF_len {W : World} {base : Nat} {s : Value} {xs : List (Int × Int)} {m : Nat} (h : OwnsF W base s xs) (hx : xs.length = m) : ∃ a cap, s = .slice a m cap := by
  rcases h.shape with ⟨e, a, cap, rfl⟩ | ⟨hn, g, cap, rfl, _⟩
  · rw [e] at hx; simp at hx; subst hx; exact ⟨_, _, rfl⟩
  · rw [hx]; exact ⟨_, _, rfl⟩

end Go.Proofs.Ytbdhlokbpbiijaa

/- Z4:
  Chapter 3 of the model: values, sums within rows, polynomials. -/
namespace Go.Proofs.Ytbdhlokbpbiijaa
open Go.RowKit
set_option linter.unusedVariables false
set_option linter.unusedSimpArgs false

theorem hasSum_cast (v : Nat → Nat) (hv : ∀ j, v j ≤ 1) (r k : Nat) (hk : k ≤ 16) : ((hasSum v r k : Nat) : Int) ≤ 16 := by have := hasSum_le v hv r k; omega

end Go.Proofs.Ytbdhlokbpbiijaa

/- Z5:
  Chapter 3 of the program: the sum within a row (a machine with goto), and the function of such sums. -/
namespace Go.Proofs.Ytbdhlokbpbiijaa
open Go.RowKit
set_option linter.unusedVariables false
set_option linter.unusedSimpArgs false

theorem valueInRow_zero' (n : Int) (x : Nat) (hx : x < 2 ^ 62) (w : World) :
    Calls Try.prog 97 #[.agg #[.int .i64 n, .int .i64 (x : Int)], .int .i64 0] w fun e w' => e = .returned (.int .i64 (bitN x 0 : Int)) ∧ Below w.heap.size w w' := valueInRow_any n x 0 hx (by omega) w

theorem polFun_ok {n : Int} {x R : Nat} (ok : FOk n x R) : FOk n (sumN (polV x) R) R := by
  have h := sumN_lt (polV x) R (fun r _ => polV_le _ _)
  have h16 : (2 : Nat) ^ R ≤ 2 ^ 16 := Nat.pow_le_pow_right (by decide) ok.r16
  exact ⟨ok.h0, ok.h4, ok.r0, ok.r16, ok.hR, by omega, ok.he, h⟩
end Go.Proofs.Ytbdhlokbpbiijaa
