/-
  Chapter 7 of the model: monotone functions, ends of rows.
-/
import Derived.Test.YtcolaggkeekgoaaMO1
import Derived.Test.YtcolaggkeekgoaaK8
import Derived.Test.YtcolaggkeekgoaaZ3
import Derived.Test.YtcolaggkeekgoaaS2
import Derived.Test.YtcolaggkeekgoaaL1
namespace Go.Proofs.Ytcolaggkeekgoaa
open Go.RowKit
set_option linter.unusedVariables false
set_option linter.unusedSimpArgs false

/-- Natural numbers as a list of numbers. -/
def nL (l : List Nat) : List Int := l.map fun (j : Nat) => (j : Int)
theorem nL_snoc (l : List Nat) (a : Nat) : nL (l ++ [a]) = nL l ++ [(a : Int)] := by simp [nL]
theorem nL_length (l : List Nat) : (nL l).length = l.length := by simp [nL]
theorem nL_get (l : List Nat) (j : Nat) (h : j < l.length) : (nL l)[j]?.getD 0 = (l[j]?.getD 0 : Nat) := by simp [nL, h]

/-- No fall at row i by the variables below k. -/
def monTo (x i k : Nat) : Bool := allLt k fun v => mon1 x i v
theorem monTo_succ (x i k : Nat) : monTo x i (k + 1) = (monTo x i k && mon1 x i k) := allLt_succ _ _
theorem mon_rows {n x R : Nat} (hn : n ≤ 4) (hR : R ≤ 16) : upRows n x R = allLt R fun i => monTo x i n := by
  rw [Bool.eq_iff_iff]
  unfold upRows upTo monTo
  constructor
  · intro h
    rw [allLt_iff]
    intro i hi
    rw [allLt_iff]
    intro v hv
    rw [mon1_up (by omega) (by omega)]
    exact allLt_iff.1 (allLt_iff.1 h i hi) v hv
  · intro h
    rw [allLt_iff]
    intro i hi
    rw [allLt_iff]
    intro v hv
    rw [← mon1_up (by omega) (by omega)]
    exact allLt_iff.1 (allLt_iff.1 h i hi) v hv
def monRows (n x j : Nat) : Bool := allLt j fun i => monTo x i n
theorem monRows_succ (n x j : Nat) : monRows n x (j + 1) = (monRows n x j && monTo x j n) := allLt_succ _ _
theorem monRows_false {n x i k m : Nat} (hi : i < m) (hk : k < n) (h : mon1 x i k = false) : monRows n x m = false := by
  cases hc : monRows n x m
  · rfl
  · have := allLt_iff.1 (allLt_iff.1 hc i hi) k hk
    rw [h] at this
    cases this

set_option maxRecDepth 100000 in
set_option maxHeartbeats 4000000 in
theorem l07Monotone_any {n : Int} {x R : Nat} (ok : FOk n x R) (w : World) :
    Calls Try.prog 56 #[.agg #[.int .i64 n, .int .i64 (x : Int)]] w fun e w' => e = .returned (.bool (cls3 n.toNat x R)) ∧ Below w.heap.size w w' := by
  have r0 := ok.r0
  have r16 := ok.r16
  have h4 := ok.h4
  have h0 := ok.h0
  have e3 : cls3 n.toNat x R = monRows n.toNat x R := mon_rows (by omega) r16
  rw [e3]
  clear e3
  have RWS := Lib.hid (fun W => l01Rows_is ok.h0 ok.h4 ok.hR W)
  obtain ⟨W1, hW1⟩ : ∃ W1, w.alloc (.cells #[.int .i64 n, .int .i64 (x : Int)] 24) = W1 := ⟨_, rfl⟩
  have p0 : W1.cell? ⟨w.heap.size, 0, none⟩ = some (.int .i64 n) := by rw [← hW1]; simp [go_sem]
  have p1 : W1.cell? ⟨w.heap.size, 1, none⟩ = some (.int .i64 (x : Int)) := by rw [← hW1]; simp [go_sem]
  have hB : Below w.heap.size w W1 := by rw [← hW1]; exact bnew _ _
  go_enter Try.func56, Try.ntmps56
  go_wp2_with fail
  clear hW1
  go_loopw [3] (fun i' wr => ∃ i : Nat, i ≤ R ∧ i' = .int .i64 i ∧ Hid (monRows n.toNat x i = true) ∧ ((wr.cell? ⟨w.heap.size, 0, none⟩ = some (.int .i64 n) ∧ wr.cell? ⟨w.heap.size, 1, none⟩ = some (.int .i64 (x : Int))) ∧ Below w.heap.size w wr))
    (fun i' _ => R - (intOf i').toNat)
  case atStart => exact ⟨0, by omega, rfl, Lib.hid rfl, ⟨p0, p1⟩, hB⟩
  case round =>
    clear p0 p1 hB
    obtain ⟨i, hi, rfl, hm, ⟨p0, p1⟩, hB⟩ := hrel
    obtain ⟨wo, rfl⟩ : ∃ wo : World, wo = wr := ⟨_, rfl⟩
    by_cases hlt : i < R
    · go_wp2_with (go_at_call 48; refine (RWS.out _).mono ?_; rintro e w' ⟨rfl, rfl⟩)
      go_loopw [4] (fun v' wr => ∃ k : Nat, (k : Int) ≤ n ∧ v' = .int .i64 k ∧ Hid (monTo x i k = true) ∧ ((wr.cell? ⟨w.heap.size, 0, none⟩ = some (.int .i64 n) ∧ wr.cell? ⟨w.heap.size, 1, none⟩ = some (.int .i64 (x : Int))) ∧ Below w.heap.size w wr))
        (fun v' _ => (n - intOf v').toNat)
      case atStart => exact ⟨0, by omega, rfl, Lib.hid rfl, ⟨p0, p1⟩, hB⟩
      case round =>
        clear p0 p1 hB
        obtain ⟨k, hk, rfl, hu, ⟨p0, p1⟩, hB⟩ := hrel
        by_cases hltk : (k : Int) < n
        · obtain ⟨hw, hI⟩ := pow_bits k (by omega)
          obtain ⟨_, ho, _, ho16, _⟩ := hI i (by omega)
          clear hI
          have ek : IntKind.u64.wrap (k : Int) = (k : Int) := by simp [IntKind.wrap, IntKind.bits, IntKind.signed]; omega
          generalize hp : (2 : Nat) ^ k = P at hw ho ho16
          have HP := Lib.hid hp
          clear hp
          have hI := bitI_nat x i
          have hJ := bitI_nat x (i ||| P)
          cases hb2 : bitN x i == 1
          · have ht : ((bitI x (i : Int) : Int) == 1) = false := by rw [hI]; have := bitN_le x i; simp at hb2 ⊢; omega
            have HU := Lib.hid (show monTo x i (k + 1) = true by rw [monTo_succ, hu.out]; simp [mon1, hb2])
            clear hb2 hI hJ
            go_wp2_with (go_at_call 49; refine (l01At_int ok _ (by omega) (by omega) _).mono ?_; rintro e w' ⟨rfl, hb⟩)
            have q0 := kc hb p0
            have q1 := kc hb p1
            go_roundw
            case rel => exact ⟨k + 1, by omega, by go_num, HU, ⟨q0, q1⟩, bthen hB hb⟩
            case measure => simp [intOf]; omega
          · have ht : ((bitI x (i : Int) : Int) == 1) = true := by rw [hI]; simp at hb2 ⊢; omega
            cases hb3 : bitN x (i ||| P) == 0
            · have ht2 : ((bitI x ((i ||| P : Nat) : Int) : Int) == 0) = false := by rw [hJ]; simp at hb3 ⊢; omega
              have HU := Lib.hid (show monTo x i (k + 1) = true by rw [monTo_succ, hu.out]; simp [mon1, HP.out, hb3])
              clear hb2 hb3 hI hJ
              go_wp2_with fail
              refine (l01At_int ok _ (by omega) (by omega) _).mono ?_
              rintro e w2 ⟨rfl, hb⟩
              have q0 := kc hb p0
              have q1 := kc hb p1
              have hB2 := bthen hB hb
              clear p0 p1 hB
              go_wp2_with fail
              refine (l01At_int ok _ (by omega) (by omega) _).mono ?_
              rintro e w3 ⟨rfl, hb⟩
              have r0 := kc hb q0
              have r1 := kc hb q1
              have hB3 := bthen hB2 hb
              clear q0 q1 hB2
              go_wp2
              go_roundw
              case rel => exact ⟨k + 1, by omega, by go_num, HU, ⟨r0, r1⟩, hB3⟩
              case measure => simp [intOf]; omega
            · have ht2 : ((bitI x ((i ||| P : Nat) : Int) : Int) == 0) = true := by rw [hJ]; simp at hb3 ⊢; omega
              have HU := Lib.hid (monRows_false (n := n.toNat) (m := R) hlt (k := k) (x := x) (by omega) (by simp [mon1, HP.out, hb2, hb3]))
              clear hb2 hb3 hI hJ
              go_wp2_with fail
              refine (l01At_int ok _ (by omega) (by omega) _).mono ?_
              rintro e w2 ⟨rfl, hb⟩
              have q0 := kc hb p0
              have q1 := kc hb p1
              have hB2 := bthen hB hb
              clear p0 p1 hB
              go_wp2_with fail
              refine (l01At_int ok _ (by omega) (by omega) _).mono ?_
              rintro e w3 ⟨rfl, hb⟩
              have r0 := kc hb q0
              have r1 := kc hb q1
              have hB3 := bthen hB2 hb
              clear q0 q1 hB2
              go_wp2
              go_ret
              exact ⟨by rw [HU.out]; rfl, hB3⟩
        · obtain hkn : n.toNat = k := by omega
          have HU := Lib.hid (show monRows n.toNat x (i + 1) = true by rw [monRows_succ, hm.out, hkn, hu.out]; rfl)
          clear hkn
          go_wp2
          go_roundw
          case rel => exact ⟨i + 1, by omega, by go_num, HU, ⟨p0, p1⟩, hB⟩
          case measure => simp [intOf]; omega
    · obtain rfl : i = R := by omega
      go_wp2_with (go_at_call 48; refine (RWS.out _).mono ?_; rintro e w' ⟨rfl, rfl⟩)
      go_ret
      exact ⟨by rw [hm.out]; rfl, hB⟩

/-- What the search for an end knows behind k rows. -/
def endTo (x v r : Nat) (lst : Bool) (k : Nat) : Bool := bitN x r == v && allLt k (okV x v r lst)
theorem endTo_succ (x v r : Nat) (lst : Bool) (k : Nat) : endTo x v r lst (k + 1) = (endTo x v r lst k && okV x v r lst k) := by unfold endTo; rw [allLt_succ, Bool.and_assoc]
theorem endTo_all (x R v r : Nat) (lst : Bool) : endTo x v r lst R = endV x R v lst r := rfl
theorem endTo_false {x v r : Nat} {lst : Bool} {k R : Nat} (hk : k ≤ R) (h : endTo x v r lst k = false) : endV x R v lst r = false := by
  cases hc : endV x R v lst r
  · rfl
  · unfold endV at hc
    rw [Bool.and_eq_true] at hc
    unfold endTo at h
    rw [hc.1, Bool.true_and] at h
    have : allLt k (okV x v r lst) = true := by
      rw [allLt_iff]
      intro i hi
      exact allLt_iff.1 hc.2 i (by omega)
    rw [this] at h
    cases h
theorem endsL_yes {x R v : Nat} {lst : Bool} {k : Nat} (h : endV x R v lst k = true) : endsL x R v lst (k + 1) = endsL x R v lst k ++ [k] := by rw [endsL_succ, h]; rfl
theorem endsL_no {x R v : Nat} {lst : Bool} {k : Nat} (h : endV x R v lst k = false) : endsL x R v lst (k + 1) = endsL x R v lst k := by rw [endsL_succ, h]; simp
end Go.Proofs.Ytcolaggkeekgoaa
