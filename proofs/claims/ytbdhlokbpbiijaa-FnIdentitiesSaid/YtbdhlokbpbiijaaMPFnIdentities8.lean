/-
  The texts D2, T1, V1, V2, V3, V4, W1, W2, W3, Y5, Y6, Y7, Y8, Y9, YA, LW, YB, YC in one.
-/
import Derived.Test.YtbdhlokbpbiijaaMPFnIdentities7
import Derived.Lib.Bytealg
import Derived.Lib.IndexLaws
import Derived.Maps.OwnSet
import Derived.Maps.Views
import Derived.StringKeys

/- D2:
  A variable fixed: the model's loop; FixVariable in both packages. -/
namespace Go.Proofs.Ytbdhlokbpbiijaa
open Go.RowKit

/-- The rows below k in which the variable i is v. -/
def fixL (i v k : Nat) : List Nat := (List.range k).filter fun r => bitN r i == v
theorem fixL_succ_yes (i v k : Nat) (h : bitN k i = v) : fixL i v (k + 1) = fixL i v k ++ [k] := by simp [fixL, List.range_succ, h]
theorem fixL_succ_no (i v k : Nat) (h : bitN k i ≠ v) : fixL i v (k + 1) = fixL i v k := by simp [fixL, List.range_succ, h]
theorem fixL_len (i v k : Nat) : (fixL i v k).length ≤ k := by
  unfold fixL
  exact Nat.le_trans (List.length_filter_le _ _) (by simp)
theorem fixL_all : ∀ n < 5, ∀ i < n, ∀ v < 2, fixL i v (2 ^ n) = (List.range (2 ^ (n - 1))).map (insN i v) := by decide +kernel

def bitVals (x : Nat) (l : List Nat) : List Value := l.map fun r => .int .i64 (bitN x r : Int)
theorem bitVals_snoc (x : Nat) (l : List Nat) (k : Nat) : bitVals x (l ++ [k]) = bitVals x l ++ [.int .i64 (bitN x k : Int)] := by simp [bitVals]

theorem FOk.fixVals {n : Int} {x R : Nat} (ok : FOk n x R) (i v : Nat) (hi : (i : Int) < n) (hv : v ≤ 1) :
    (fixL i v R).length = 2 ^ (n.toNat - 1) ∧ bitVals x (fixL i v R) = valsN (fun r => bitN x (insN i v r)) (2 ^ (n.toNat - 1)) := by
  have h4 := ok.h4
  have e := fixL_all n.toNat (by omega) i (by omega) v (by omega)
  rw [← ok.he] at e
  rw [e]
  exact ⟨by simp, by simp [bitVals, valsN, List.map_map, Function.comp_def]⟩

theorem l01At_is {n : Int} {x R : Nat} (ok : FOk n x R) (k : Nat) (hk : k < 62) (w : World) :
    Calls Try.prog 115 #[.agg #[.int .i64 n, .int .i64 (x : Int)], .int .i64 (k : Int)] w fun e w' => e = .returned (.int .i64 (bitN x k : Int)) ∧ Below w.heap.size w w' := l01At_any n x k ok.hx hk w

set_option maxRecDepth 100000 in
set_option maxHeartbeats 2000000 in
theorem l01Fix_any {n : Int} {x R : Nat} (ok : FOk n x R) (i v : Nat) (hin : (i : Int) < n) (hv : v ≤ 1) (w : World) :
    Calls Try.prog 182 #[.agg #[.int .i64 n, .int .i64 (x : Int)], .int .i64 (i : Int), .int .i64 (v : Int)] w fun e w' => e = .returned (.agg #[.int .i64 (n - 1), .int .i64 (fixN n x i v : Int)]) ∧ Below w.heap.size w w' := by
  obtain ⟨i0, hi, hz0, hz1, hz2⟩ := info_parts infoI
  have r0 := ok.r0
  have r16 := ok.r16
  have h4 := ok.h4
  have hi16 : i < 16 := by omega
  obtain ⟨W1, hW1⟩ : ∃ W1, (w.alloc (.cells #[.int .i64 n, .int .i64 (x : Int)] 25)).alloc (.cells #[.int .i64 0, .int .i64 0] 25) = W1 := ⟨_, rfl⟩
  have p0 : W1.cell? ⟨w.heap.size, 0, none⟩ = some (.int .i64 n) := by rw [← hW1]; simp [go_sem]
  have p1 : W1.cell? ⟨w.heap.size, 1, none⟩ = some (.int .i64 (x : Int)) := by rw [← hW1]; simp [go_sem]
  have c0 : W1.cell? ⟨w.heap.size + 1, 0, none⟩ = some (.int .i64 0) := by rw [← hW1]; simp [go_sem]
  have c1 : W1.cell? ⟨w.heap.size + 1, 1, none⟩ = some (.int .i64 0) := by rw [← hW1]; simp [go_sem]
  have f0 : W1.frozen? ⟨w.heap.size + 1, 0, none⟩ = false := by rw [← hW1]; simp [go_sem]
  have f1 : W1.frozen? ⟨w.heap.size + 1, 1, none⟩ = false := by rw [← hW1]; simp [go_sem]
  have hB : Below w.heap.size w W1 := by rw [← hW1]; exact balloc (bnew _ _) _
  have l0 : w.heap.size < W1.heap.size := cell_lt p0
  have l1 : w.heap.size + 1 < W1.heap.size := cell_lt c0
  go_enter Try.func182, Try.ntmps182
  go_wp2
  clear hW1
  go_loopw [7, 8] (fun s i' wr => ∃ k : Nat, k ≤ R ∧ i' = .int .i64 k ∧ wr.ownsRow W1.heap.size 2 1 s (fixL i v k).length (bitVals x (fixL i v k)) ∧ Below W1.heap.size W1 wr)
    (fun _ i' _ => R - (intOf i').toNat)
  case atStart => exact ⟨0, Nat.zero_le _, rfl, World.ownsRow_lit W1 #[] 0 (Nat.le_refl _) (by decide) rfl, bnew _ _⟩
  case round =>
    obtain ⟨k, hk, rfl, hown, hN⟩ := hrel
    have hsz := hN.size
    have q0 := kc hN p0
    have q1 := kc hN p1
    by_cases hlt : k < R
    · have E := digit_eq k i (by omega)
      have hlen := fixL_len i v k
      by_cases hb : bitN k i = v
      · have HS := Lib.hid (fixL_succ_yes i v k hb)
        have ht : ((bitN k i : Int) == (v : Int)) = true := by simp [hb]
        clear hb
        go_wp2_with (first
          | (go_at_call 116; refine (l01Rows_is ok.h0 ok.h4 ok.hR _).mono ?_; rintro e w' ⟨rfl, rfl⟩)
          | (go_at_call 115; refine (l01At_is ok k (by omega) _).mono ?_; rintro e w2 ⟨rfl, hb2⟩; have hown2 := owns_below hown hb2; have hN2 := bthen hN hb2; have hsz2 := hb2.size)
          | (at_builtin; refine wpList_append_own _ rfl _ _ 27 rfl W1.heap.size 2 i0 (.int .i64 0) 1 8 Try.underlying27 hi hz0 hz1 hz2 rfl (by decide) _ _ _ rfl (hown2.alloc _) ⟨w2.heap.size, 0, none⟩ 1 1 [.int .i64 (bitN x k : Int)] rfl rfl (cell_one_new _ _ _) (one_cell_int _) (by unfold maxLen; omega) (by omega) (by simp; omega) ?_))
        intro v' w1 hown' hgrow _
        have hN' := (balloc hN2 (.cells #[.int .i64 (bitN x k : Int)] 2)).grown hgrow (by simp; omega) (fun j e => (hown2.lt j e).1)
        clear hgrow hown hN hown2 hN2 E
        go_wp2
        go_roundw
        case rel => exact ⟨k + 1, by omega, by go_num, by rw [HS.out, bitVals_snoc, List.length_append]; exact hown', hN'⟩
        case measure => simp [intOf]; omega
      · have HS := Lib.hid (fixL_succ_no i v k hb)
        have ht : ((bitN k i : Int) == (v : Int)) = false := by simp; omega
        clear hb
        go_wp2_with (first
          | (go_at_call 116; refine (l01Rows_is ok.h0 ok.h4 ok.hR _).mono ?_; rintro e w' ⟨rfl, rfl⟩))
        go_roundw
        case rel => exact ⟨k + 1, by omega, by go_num, by rw [HS.out]; exact hown, hN⟩
        case measure => simp [intOf]; omega
    · obtain rfl : k = R := by omega
      obtain ⟨z0, z8, zR⟩ := ok.lesser (by omega)
      obtain ⟨L1, L2⟩ := ok.fixVals i v hin hv
      rw [L1, L2] at hown
      obtain ⟨g, cap, rfl, hg, hc⟩ := owned_slice z0 hown
      have d00 := kc hN c0
      have d01 := kc hN c1
      have g00 := kf hN c0 f0
      have g01 := kf hN c1 f1
      have hB2 := bthen hB hN
      have OF := Lib.hid (l01Of_any (n := n - 1) (by omega) (by omega) z0 (by omega) zR g cap (fun r => bitN x (insN i v r)) (fun r _ => bitN_le _ _) wr hg hc)
      clear hown hN p0 p1 c0 c1 f0 f1 hB L1 L2 hc hg
      have hfix : fixN n x i v = sumN (fun r => bitN x (insN i v r)) (2 ^ (n.toNat - 1)) := rfl
      generalize 2 ^ (n.toNat - 1) = Z at OF z0 z8 zR hfix
      have HF := Lib.hid hfix
      clear hfix
      go_wp2_with (first
        | (go_at_call 116; refine (l01Rows_is ok.h0 ok.h4 ok.hR _).mono ?_; rintro e w' ⟨rfl, rfl⟩)
        | (go_at_call 168; refine OF.out.mono ?_; rintro e w3 ⟨rfl, hb3⟩; have e00 := kc hb3 d00; have e01 := kc hb3 d01; have k00 := kf hb3 d00 g00; have k01 := kf hb3 d01 g01; have hB3 := bthen hB2 hb3))
      exact bodyPost_ret (v := .agg #[.int .i64 (n - 1), .int .i64 (fixN n x i v : Int)]) (by rw [HF.out]; simp [results, Try.results182, go_sem, e00, e01]) rfl ⟨rfl, (hB3.setCell (p := ⟨w.heap.size + 1, 0, none⟩) (by simp) _).setCell (p := ⟨w.heap.size + 1, 1, none⟩) (by simp) _⟩
end Go.Proofs.Ytbdhlokbpbiijaa

/- T1:
  Texts of functions, read by the model: l01Read. -/
namespace Go.Proofs.Ytbdhlokbpbiijaa
open Go.RowKit
set_option linter.unusedVariables false

/-- The byte at a place. -/
def bt (s : ByteArray) (k : Nat) : Nat := if h : k < s.size then s[k].toNat else 0
theorem bt_eq {s : ByteArray} {k : Nat} (h : k < s.size) : (s[k].toNat : Int) = (bt s k : Int) := by simp [bt, h]
theorem bt_lt (s : ByteArray) (k : Nat) : bt s k < 256 := by
  unfold bt
  split
  · exact UInt8.toNat_lt _
  · decide

/-- The values that a text tells, the first j of them. -/
def xsTo (s : ByteArray) (j : Nat) : List Int := (List.range j).map fun r => (bt s (r + 2) : Int) - 48
theorem xsTo_succ (s : ByteArray) (j : Nat) : xsTo s (j + 1) = xsTo s j ++ [(bt s (j + 2) : Int) - 48] := by simp [xsTo, List.range_succ]
theorem xsTo_len (s : ByteArray) (j : Nat) : (xsTo s j).length = j := by simp [xsTo]
/-- The arity that a text tells. -/
def txN (s : ByteArray) : Int := (bt s 0 : Int) - 48

set_option maxRecDepth 100000 in
set_option maxHeartbeats 2000000 in
theorem l01Read_short (s : ByteArray) (hs : s.size ≤ 1048576) (h : s.size < 3 ∨ (3 ≤ s.size ∧ bt s 1 ≠ 58)) (w : World) :
    Calls Try.prog 181 #[.string s] w fun e w' => e = .returned (.tuple #[.agg #[.int .i64 0, .int .i64 0], .bool false]) ∧ Below w.heap.size w w' := by
  rcases h with h | ⟨h, h1⟩
  · go_enter Try.func181, Try.ntmps181
    go_wp2
    exact bodyPost_ret (v := .tuple #[.agg #[.int .i64 0, .int .i64 0], .bool false]) (by simp [results, Try.results181, go_sem]) rfl ⟨rfl, bnew _ _⟩
  · have hb := bt_eq (s := s) (k := 1) (by omega)
    have hne : ((bt s 1 : Int) != 58) = true := by simp; omega
    go_enter Try.func181, Try.ntmps181
    go_wp2
    exact bodyPost_ret (v := .tuple #[.agg #[.int .i64 0, .int .i64 0], .bool false]) (by simp [results, Try.results181, go_sem]) rfl ⟨rfl, bnew _ _⟩

set_option maxRecDepth 100000 in
set_option maxHeartbeats 2000000 in
theorem l01Read_arity (s : ByteArray) (hs : s.size ≤ 1048576) (h : 3 ≤ s.size) (h1 : bt s 1 = 58) (hn : inB (txN s) 0 4 = false) (w : World) :
    Calls Try.prog 181 #[.string s] w fun e w' => e = .returned (.tuple #[.agg #[.int .i64 0, .int .i64 0], .bool false]) ∧ Below w.heap.size w w' := by
  have hb := bt_eq (s := s) (k := 1) (by omega)
  have hb0 := bt_eq (s := s) (k := 0) (by omega)
  have hne : ((bt s 1 : Int) != 58) = false := by simp [h1]
  have hlt := bt_lt s 0
  unfold txN at hn
  clear h1
  go_enter Try.func181, Try.ntmps181
  go_wp2_with (go_at_call 105; refine (l01In_is hn _).mono ?_; rintro e w' ⟨rfl, rfl⟩)
  exact bodyPost_ret (v := .tuple #[.agg #[.int .i64 0, .int .i64 0], .bool false]) (by simp [results, Try.results181, go_sem]) rfl ⟨rfl, balloc (bnew _ _) _⟩

set_option maxRecDepth 100000 in
set_option maxHeartbeats 2000000 in
theorem l01Read_len (s : ByteArray) (hs : s.size ≤ 1048576) (h : 3 ≤ s.size) (h1 : bt s 1 = 58) (hn : inB (txN s) 0 4 = true) {R : Nat} (hR : Hid (rowsN (txN s) = (R : Int))) (r16 : R ≤ 16) (hz : s.size ≠ 2 + R) (w : World) :
    Calls Try.prog 181 #[.string s] w fun e w' => e = .returned (.tuple #[.agg #[.int .i64 0, .int .i64 0], .bool false]) ∧ Below w.heap.size w w' := by
  have hb := bt_eq (s := s) (k := 1) (by omega)
  have hb0 := bt_eq (s := s) (k := 0) (by omega)
  have hne : ((bt s 1 : Int) != 58) = false := by simp [h1]
  have hlt := bt_lt s 0
  have hn2 : 0 ≤ txN s ∧ txN s ≤ 4 := by simpa [inB] using hn
  have hze : ((s.size : Int) != 2 + (R : Int)) = true := by simp; omega
  have RW := Lib.hid (fun W => l01Rows_is hn2.1 hn2.2 hR W)
  unfold txN at hn RW
  clear h1 hz hn2
  go_enter Try.func181, Try.ntmps181
  go_wp2_with (first
    | (go_at_call 105; refine (l01In_is hn _).mono ?_; rintro e w' ⟨rfl, rfl⟩)
    | (go_at_call 116; refine (RW.out _).mono ?_; rintro e w' ⟨rfl, rfl⟩))
  exact bodyPost_ret (v := .tuple #[.agg #[.int .i64 0, .int .i64 0], .bool false]) (by simp [results, Try.results181, go_sem]) rfl ⟨rfl, balloc (bnew _ _) _⟩

/-- What l01Read answers at a text of the right length. -/
def ReadPost (ok : Bool) (n b : Int) (w : World) (e : Ending) (w' : World) : Prop := e = .returned (.tuple #[.agg #[.int .i64 (if ok then n else 0), .int .i64 (if ok then b else 0)], .bool ok]) ∧ Below w.heap.size w w'

set_option maxRecDepth 100000 in
set_option maxHeartbeats 4000000 in
theorem l01Read_long (s : ByteArray) (hs : s.size ≤ 1048576) (h : 3 ≤ s.size) (h1 : bt s 1 = 58) (hn : inB (txN s) 0 4 = true) {R : Nat} (r0 : 0 < R) (hR : Hid (rowsN (txN s) = (R : Int))) (r16 : R ≤ 16) (hz : s.size = 2 + R) (b : Bool) (hbb : ((xsTo s R).all fun v => inB v 0 1) = b) (w : World) :
    Calls Try.prog 181 #[.string s] w (ReadPost b (txN s) (sumN (dig (xsTo s R)) R : Int) w) := by
  obtain ⟨i0, hinf, hz0, hz1, hz2⟩ := info_parts infoI
  have hb := bt_eq (s := s) (k := 1) (by omega)
  have hb0 := bt_eq (s := s) (k := 0) (by omega)
  have hne : ((bt s 1 : Int) != 58) = false := by simp [h1]
  have hlt0 := bt_lt s 0
  have hn2 : 0 ≤ txN s ∧ txN s ≤ 4 := by simpa [inB] using hn
  have hze : ((s.size : Int) != 2 + (R : Int)) = false := by simp; omega
  have RW := Lib.hid (fun W => l01Rows_is hn2.1 hn2.2 hR W)
  have OF := Lib.hid (fun g cap W => l01Of_any hn2.1 hn2.2 r0 r16 hR g cap (dig (xsTo s R)) (w := W))
  have HBB := Lib.hid hbb
  unfold txN at hn RW OF
  unfold txN
  obtain ⟨W1, hW1⟩ : ∃ W1, w.alloc (.cells #[.int .i64 0, .int .i64 0] 25) = W1 := ⟨_, rfl⟩
  have c0 : W1.cell? ⟨w.heap.size, 0, none⟩ = some (.int .i64 0) := by rw [← hW1]; simp [go_sem]
  have c1 : W1.cell? ⟨w.heap.size, 1, none⟩ = some (.int .i64 0) := by rw [← hW1]; simp [go_sem]
  have f0 : W1.frozen? ⟨w.heap.size, 0, none⟩ = false := by rw [← hW1]; simp [go_sem]
  have f1 : W1.frozen? ⟨w.heap.size, 1, none⟩ = false := by rw [← hW1]; simp [go_sem]
  have hB : Below w.heap.size w W1 := by rw [← hW1]; exact bnew _ _
  have l0 : w.heap.size < W1.heap.size := cell_lt c0
  clear h1 hn2 hbb
  go_enter Try.func181, Try.ntmps181
  go_wp2_with (first
    | (go_at_call 105; refine (l01In_is hn _).mono ?_; rintro e w' ⟨rfl, rfl⟩)
    | (go_at_call 116; refine (RW.out _).mono ?_; rintro e w' ⟨rfl, rfl⟩))
  clear hW1
  go_loopw [5, 6] (fun s' i' wr => ∃ j : Nat, j ≤ R ∧ i' = .int .i64 ((j + 2 : Nat) : Int) ∧ Owns wr W1.heap.size s' (xsTo s j) ∧ Below W1.heap.size W1 wr)
    (fun _ i' _ => R + 2 - (intOf i').toNat)
  case atStart => exact ⟨0, Nat.zero_le _, rfl, World.ownsRow_lit W1 #[] 0 (Nat.le_refl _) (by decide) rfl, bnew _ _⟩
  case round =>
    obtain ⟨j, hj, rfl, hown, hN⟩ := hrel
    have hsz := hN.size
    by_cases hlt : j < R
    · have hjs : j + 2 < s.size := by omega
      have hbj := bt_eq (s := s) (k := j + 2) hjs
      have hbl := bt_lt s (j + 2)
      have HS := Lib.hid (xsTo_succ s j)
      have hlen := xsTo_len s j
      have hown5 : World.ownsRow _ _ _ _ _ _ _ := hown
      go_wp2_with (first
        | (at_builtin; refine wpList_append_own _ rfl _ _ 27 rfl W1.heap.size 2 i0 (.int .i64 0) 1 8 Try.underlying27 hinf hz0 hz1 hz2 rfl (by decide) _ _ _ rfl (hown5.alloc _) ⟨wr.heap.size, 0, none⟩ 1 1 [.int .i64 ((bt s (j + 2) : Int) - 48)] rfl rfl (cell_one_new _ _ _) (one_cell_int _) (by unfold maxLen; omega) (by omega) (by simp; omega) ?_))
      intro v' w1 hown' hgrow _
      have hN' := (balloc hN (.cells #[.int .i64 ((bt s (j + 2) : Int) - 48)] 2)).grown hgrow (by simp; omega) (fun j e => (hown5.lt j e).1)
      clear hgrow hown5 hown hN
      go_wp2
      go_roundw
      case rel => exact ⟨j + 1, by omega, by go_num, by rw [HS.out]; unfold Owns; rw [ints_snoc, List.length_append, xsTo_len]; exact hown', hN'⟩
      case measure => simp [intOf]; omega
    · obtain rfl : j = R := by omega
      have d0 := kc hN c0
      have d1 := kc hN c1
      have g0 := kf hN c0 f0
      have g1 := kf hN c1 f1
      have hB2 := bthen hB hN
      have HO := Lib.hid hown
      have BI := Lib.hid (l01Bits_any (by rw [xsTo_len]; omega) wr hown)
      rcases hown.shape with ⟨e0, _⟩ | ⟨hn0, g, cap, rfl, hbg, hg, hcc, hf⟩
      · have := xsTo_len s j; rw [e0] at this; simp at this; omega
      rw [xsTo_len] at hn0 hcc BI ⊢
      cases b
      · clear hown hcc hf HO
        go_wp2_with (go_at_call 120; refine (BI.out).mono ?_; rintro e w' ⟨he, rfl⟩; rw [HBB.out] at he; subst he)
        exact bodyPost_ret (v := .tuple #[.agg #[.int .i64 0, .int .i64 0], .bool false]) (by simp [results, Try.results181, go_sem, d0, d1]) rfl ⟨rfl, (hB2.setCell (p := ⟨w.heap.size, 0, none⟩) (by simp) _).setCell (p := ⟨w.heap.size, 1, none⟩) (by simp) _⟩
      · have hdi := dig_ok HBB.out
        rw [xsTo_len] at hdi
        have OF2 := Lib.hid (OF.out g cap wr (fun r hr => (hdi r hr).1) hg (Lib.hid fun i hi => by rw [hcc.out i hi, (hdi i hi).2]))
        clear hown hcc hf HO hdi
        go_wp2_with (first
          | (go_at_call 120; refine (BI.out).mono ?_; rintro e w' ⟨he, rfl⟩; rw [HBB.out] at he; subst he)
          | (go_at_call 168; refine OF2.out.mono ?_; rintro e w6 ⟨rfl, hb6⟩; have e0 := kc hb6 d0; have e1 := kc hb6 d1; have j0 := kf hb6 d0 g0; have j1 := kf hb6 d1 g1; have hB6 := bthen hB2 hb6))
        exact bodyPost_ret (v := .tuple #[.agg #[.int .i64 ((bt s 0 : Int) - 48), .int .i64 (sumN (dig (xsTo s j)) j : Int)], .bool true]) (by simp [results, Try.results181, go_sem, e0, e1]) rfl ⟨rfl, (hB6.setCell (p := ⟨w.heap.size, 0, none⟩) (by simp) _).setCell (p := ⟨w.heap.size, 1, none⟩) (by simp) _⟩

/-- The rows that a text tells. -/
def txR (s : ByteArray) : Nat := 2 ^ (txN s).toNat
/-- Whether a text is one of a function. -/
def rdOk (s : ByteArray) : Bool := decide (3 ≤ s.size) && (bt s 1 == 58 && (inB (txN s) 0 4 && (s.size == 2 + txR s && (xsTo s (txR s)).all fun v => inB v 0 1)))
/-- The bits that a text tells. -/
def rdB (s : ByteArray) : Int := (sumN (dig (xsTo s (txR s))) (txR s) : Int)

theorem l01Read_any (s : ByteArray) (hs : s.size ≤ 1048576) (w : World) :
    Calls Try.prog 181 #[.string s] w (ReadPost (rdOk s) (txN s) (rdB s) w) := by
  unfold rdOk
  by_cases h : 3 ≤ s.size
  · by_cases h1 : bt s 1 = 58
    · cases hn : inB (txN s) 0 4
      · simp only [h, h1]
        exact l01Read_arity s hs h h1 hn w
      · have hn2 : 0 ≤ txN s ∧ txN s ≤ 4 := by simpa [inB] using hn
        obtain ⟨R, hR, r0, r16, he⟩ := rowsN_eq hn2.1 hn2.2
        have hT : txR s = R := he.symm
        unfold rdB
        rw [hT]
        by_cases hz : s.size = 2 + R
        · have e : (s.size == 2 + R) = true := by simp [hz]
          simp only [h, h1, e, decide_true, Bool.true_and, beq_self_eq_true]
          exact l01Read_long s hs h h1 hn r0 (Lib.hid hR) r16 hz _ rfl w
        · have e : (s.size == 2 + R) = false := by simp [hz]
          simp only [h, h1, e, decide_true, Bool.true_and, beq_self_eq_true, Bool.false_and]
          exact l01Read_len s hs h h1 hn (Lib.hid hR) r16 hz w
    · have e : (bt s 1 == 58) = false := by simp [h1]
      simp only [h, e, decide_true, Bool.true_and, Bool.false_and]
      exact l01Read_short s hs (.inr ⟨h, h1⟩) w
  · simp only [h, decide_false, Bool.false_and]
    exact l01Read_short s hs (.inl (by omega)) w
end Go.Proofs.Ytbdhlokbpbiijaa

/- V1:
  strings.Cut at a colon. -/
namespace Go.Proofs.Ytbdhlokbpbiijaa
open Go.RowKit
set_option linter.unusedVariables false

end Go.Proofs.Ytbdhlokbpbiijaa

/- V2:
  ParseFunc in the program. -/
namespace Go.Proofs.Ytbdhlokbpbiijaa
open Go.RowKit
set_option linter.unusedVariables false
set_option linter.unusedSimpArgs false

/-- FuncOf, its answer in one form. -/
theorem implFuncOf_bool {xs : List Int} (hl : xs.length ≤ 1048576) (n : Int) {ok : Bool} (hok : (inB n 0 4 && (xs.length == 2 ^ n.toNat && xs.all fun v => inB v 0 1)) = ok) (base : Nat) (s : Value) (w : World) (ho : Owns w base s xs) :
    Calls Try.prog 15 #[.int .i64 n, s] w fun e w' => e = .returned (.tuple #[.agg #[.int .i64 (if ok then n else 0), .int .i64 (if ok then (sumN (dig xs) xs.length : Int) else 0)], .int .i64 (if ok then 0 else 2)]) ∧ Below w.heap.size w w' := by
  subst hok
  cases h1 : inB n 0 4
  · exact implFuncOf_no hl h1 w ho
  · have hn2 : 0 ≤ n ∧ n ≤ 4 := by simpa [inB] using h1
    obtain ⟨R, hR, r0, r16, he⟩ := rowsN_eq hn2.1 hn2.2
    rw [← he]
    by_cases hx : xs.length = R
    · have e : (xs.length == R) = true := by simp [hx]
      cases hd : (xs.all fun v => inB v 0 1)
      · rw [e]
        exact implFuncOf_dig hl hn2.1 hn2.2 h1 r0 r16 (Lib.hid hR) (by simp [hx]) hd w ho
      · rw [e]
        have := implFuncOf_yes hn2.1 hn2.2 h1 r0 r16 (Lib.hid hR) hx hd w ho
        rw [← hx] at this
        exact this
    · have e : (xs.length == R) = false := by simp [hx]
      rw [e]
      exact implFuncOf_len hl hn2.1 hn2.2 h1 r0 r16 (Lib.hid hR) (by simp; omega) w ho

/-- The values of the bytes of a text. -/
def tv (T : ByteArray) (j : Nat) : List Int := (List.range j).map fun r => (bt T r : Int) - 48
theorem tv_len (T : ByteArray) (j : Nat) : (tv T j).length = j := by simp [tv]
theorem tv_get (T : ByteArray) (L i : Nat) (h : i < L) : (tv T L)[i]?.getD 0 = (bt T i : Int) - 48 := by simp [tv, h]

/-- The answer to a text. -/
def ParsePost (ok : Bool) (n b : Int) (w : World) (e : Ending) (w' : World) : Prop := e = .returned (.tuple #[.agg #[.int .i64 (if ok then n else 0), .int .i64 (if ok then b else 0)], .int .i64 (if ok then 0 else 6)]) ∧ Below w.heap.size w w'

end Go.Proofs.Ytbdhlokbpbiijaa

/- V3:
  ParseFunc in both packages, whatever text comes in. -/
namespace Go.Proofs.Ytbdhlokbpbiijaa
open Go.RowKit
set_option linter.unusedVariables false
set_option linter.unusedSimpArgs false

theorem bt58 {s : ByteArray} {k : Nat} (h : k < s.size) : s.data.toList[k]? = some 58 ↔ bt s k = 58 := by
  have h' : k < s.data.size := h
  have e : s.data.toList[k]? = some s[k] := by
    rw [Array.getElem?_toList, Array.getElem?_eq_getElem h']
    rfl
  rw [e]
  simp only [bt, h, dif_pos, Option.some.injEq]
  constructor
  · intro h1; rw [h1]; rfl
  · intro h1; exact UInt8.toNat_inj.1 h1

theorem bt_extract (s : ByteArray) (a b k : Nat) (hb : b ≤ s.size) (hk : a + k < b) : bt (s.extract a b) k = bt s (a + k) := by
  have h1 : k < (s.extract a b).size := by rw [ByteArray.size_extract]; omega
  have h2 : a + k < s.size := by omega
  simp only [bt, h1, h2, dif_pos]
  rw [ByteArray.getElem_extract]

end Go.Proofs.Ytbdhlokbpbiijaa

/- V4:
  ParseFunc: both packages. -/
namespace Go.Proofs.Ytbdhlokbpbiijaa
open Go.RowKit
set_option linter.unusedVariables false
set_option linter.unusedSimpArgs false

end Go.Proofs.Ytbdhlokbpbiijaa

/- W1:
  The names of functions in the program. -/
namespace Go.Proofs.Ytbdhlokbpbiijaa
open Go.RowKit
open Go.Maps (Keyed IsMap)
set_option linter.unusedVariables false
set_option linter.unusedSimpArgs false

/-- The names, and what they name. -/
def nmL : List (List UInt8 × Int × Int) := [([122, 101, 114, 111], 0, 0), ([111, 110, 101], 0, 1), ([105, 100], 1, 2), ([110, 111, 116], 1, 1), ([97, 110, 100], 2, 8), ([111, 114], 2, 14), ([120, 111, 114], 2, 6), ([110, 97, 110, 100], 2, 7), ([110, 111, 114], 2, 1), ([101, 113, 117, 97, 108], 2, 9), ([105, 109, 112, 108, 121], 2, 13), ([109, 97, 106, 111, 114, 105, 116, 121], 3, 232), ([109, 105, 110, 111, 114, 105, 116, 121], 3, 150), ([105, 102], 3, 216)]

abbrev DV := DataW Unit
/-- How a function that lies in a map reads: any way that tells functions apart. -/
def fnD (n x : Int) : DV := .map [(.int .i64 n, .lit (.int .i64 x))]
def rdFn (v : Value) : Option (DV × List MemPlace) :=
  match v with
  | .agg cs => match cs.toList with
    | [.int .i64 n, .int .i64 x] => some (fnD n x, [])
    | _ => none
  | _ => none
theorem rdFn_inv {v : Value} {n x : Int} {ps : List MemPlace} (h : rdFn v = some (fnD n x, ps)) : v = .agg #[.int .i64 n, .int .i64 x] := by
  unfold rdFn at h
  split at h
  · rename_i cs
    split at h
    · rename_i n' x' he
      simp [fnD] at h
      obtain ⟨⟨rfl, rfl⟩, _⟩ := h
      rw [show cs = cs.toList.toArray by simp, he]
    · cases h
  · cases h

/-- Entries put into a map, one after the other. -/
def putNm (D : DV) (l : List (List UInt8 × Int × Int)) : DV := l.foldl (fun D e => D.put (.string e.1) (fnD e.2.1 e.2.2)) D
theorem putNm_isMap {D : DV} (h : IsMap D) (l : List (List UInt8 × Int × Int)) : IsMap (putNm D l) := by
  induction l generalizing D with
  | nil => exact h
  | cons e l ih => exact ih (h.put _ _)
theorem has_putNm {D : DV} (h : IsMap D) (l : List (List UInt8 × Int × Int)) (q : List UInt8) : Maps.has (putNm D l) (.string q) = (l.any (fun e => e.1 == q) || Maps.has D (.string q)) := by
  induction l generalizing D with
  | nil => rfl
  | cons e l ih =>
    show Maps.has (putNm (D.put (.string e.1) (fnD e.2.1 e.2.2)) l) (.string q) = _
    rw [ih (h.put _ _), List.any_cons]
    by_cases he : e.1 = q
    · subst he
      rw [Maps.has_put_same h (show WideAt.IsKeyLit (Lit.string e.1) from trivial)]
      simp
    · rw [Maps.has_put_other (fun c => he (by cases c; rfl)), show (e.1 == q) = false by simp [he], Bool.false_or]
theorem at_putNm {D : DV} (h : IsMap D) (l : List (List UInt8 × Int × Int)) (hd : l.Pairwise fun a b => a.1 ≠ b.1) (q : List UInt8) (z : DV) :
    (putNm D l).atKey (.string q) z = match l.find? (fun e => e.1 == q) with | some e => fnD e.2.1 e.2.2 | none => D.atKey (.string q) z := by
  induction l generalizing D with
  | nil => rfl
  | cons e l ih =>
    obtain ⟨h1, h2⟩ := List.pairwise_cons.1 hd
    show (putNm (D.put (.string e.1) (fnD e.2.1 e.2.2)) l).atKey (.string q) z = _
    rw [ih (h.put _ _) h2, List.find?_cons]
    by_cases he : e.1 = q
    · subst he
      rw [List.find?_eq_none.2 (fun b hb => by simpa using (h1 b hb).symm), show (e.1 == e.1) = true by simp]
      exact Maps.atKey_put_same h (show WideAt.IsKeyLit (Lit.string e.1) from trivial) _ _
    · rw [show (e.1 == q) = false by simp [he], Maps.atKey_put_other (fun c => he (by cases c; rfl))]

theorem lawS : Keyed Try.prog 9 := Maps.string_keyed Try.underlying9

section
variable {H : Type} {P : Program} (w : World) {ops : Array Oper} {rest : List Oper} {o : Oper} {a : Act} {Q : Exit → Act → World → Prop}
/-- An entry of a map that is laid out. -/
theorem wpList_insert_own (hg : o.guard = none) (m x v : Operand) (t : TypeId) (hop : o.op = Op.insert t m x v)
    (k e : TypeId) (K : Keyed P k) (ht : P.underlying t = some (.map k e)) (R : Value → Option (DataW H × List MemPlace)) (b n : Nat) (D : DataW H)
    (hm : a.eval m = .map (some b)) (hown : w.ownsMap P k R b n D) (hn : n < maxLen) (key val : Value) (kl : Lit) (hx : a.eval x = key) (hv : a.eval v = val) (hkey : keyOf P k key = some kl)
    (d : DataW H) (ps : List MemPlace) (hval : R val = some (d, ps))
    (hK : ∀ w', w'.ownsMap P k R b (n + 1) (D.put kl d) → w.grownBy w' (some b) → wpList P ops Q rest (a.put o.dst undef) w') :
    wpList P ops Q (o :: rest) a w := by
  refine wpList_plain hg fun K' hK' => ?_
  obtain ⟨w', hrun, r1, r2⟩ := hown.update K ht hn hkey hval
  unfold Oper.wp
  simp [execOp, hop, hm, hx, hv, hrun, Result.andThen]
  exact hK' _ _ (hK w' r1 r2)
end

end Go.Proofs.Ytbdhlokbpbiijaa

/- W2:
  NamedFunc in the program. -/
namespace Go.Proofs.Ytbdhlokbpbiijaa
open Go.RowKit
open Go.Maps (Keyed IsMap)
set_option linter.unusedVariables false
set_option linter.unusedSimpArgs false

theorem zeroFn (w : World) : (zeroValue 25).run Try.prog w = .ok (.agg #[.int .i64 0, .int .i64 0]) w := by kernel_rfl
theorem nmL_apart : nmL.Pairwise fun a b => a.1 ≠ b.1 := by decide

def NamedPost (n x c : Int) (w : World) (e : Ending) (w' : World) : Prop := e = .returned (.tuple #[.agg #[.int .i64 n, .int .i64 x], .int .i64 c]) ∧ Below w.heap.size w w'

end Go.Proofs.Ytbdhlokbpbiijaa

/- W3:
  NamedFunc in the model. -/
namespace Go.Proofs.Ytbdhlokbpbiijaa
open Go.RowKit
set_option linter.unusedVariables false
set_option linter.unusedSimpArgs false

/-- The texts of the functions that have names. -/
def txL : List (List UInt8) := [[48, 58, 48], [48, 58, 49], [49, 58, 48, 49], [49, 58, 49, 48], [50, 58, 48, 48, 48, 49], [50, 58, 48, 49, 49, 49], [50, 58, 48, 49, 49, 48], [50, 58, 49, 49, 49, 48], [50, 58, 49, 48, 48, 48], [50, 58, 49, 48, 48, 49], [50, 58, 49, 48, 49, 49], [51, 58, 48, 48, 48, 49, 48, 49, 49, 49], [51, 58, 48, 49, 49, 48, 49, 48, 48, 49], [51, 58, 48, 48, 48, 49, 49, 48, 49, 49]]
def nmK (i : Nat) : List UInt8 := (nmL[i]?.map (·.1)).getD []
def nmAt (i : Nat) : ByteArray := ⟨(nmK i).toArray⟩
def txAt (i : Nat) : ByteArray := ⟨((txL[i]?).getD []).toArray⟩
theorem cell_newB (w : World) (cs : Array Value) (t : TypeId) (i : Nat) : (w.alloc (.cells cs t)).cell? ⟨w.heap.size, i, none⟩ = cs[i]? := by simp [go_sem]
theorem nmAt_cmp (i : Nat) (s : ByteArray) : ((nmAt i).toList == s.toList) = (nmK i == s.data.toList) := by
  rw [Lib.toList_data, Lib.toList_data]
  rfl
theorem cells_of_list {l : List ByteArray} {i : Nat} (h : i < l.length) : ((l.map Value.string).toArray)[i]? = some (.string l[i]) := by simp [h]

set_option maxRecDepth 100000 in
set_option maxHeartbeats 1000000 in
theorem l01Known_any (w : World) :
    Calls Try.prog 180 #[] w fun e w' => e = .returned (.slice (some ⟨w.heap.size, 0, none⟩) 14 14) ∧ Hid (∀ i, i < 14 → w'.cell? ⟨w.heap.size, i, none⟩ = some (.string (txAt i))) ∧ Below w.heap.size w w' := by
  go_enter Try.func180, Try.ntmps180
  go_wp2
  go_ret
  refine ⟨rfl, Lib.hid fun i hi => ?_, bnew _ _⟩
  rw [cell_newB]
  match i, hi with
  | 0, _ | 1, _ | 2, _ | 3, _ | 4, _ | 5, _ | 6, _ | 7, _ | 8, _ | 9, _ | 10, _ | 11, _ | 12, _ | 13, _ => rfl

theorem txAt_size (i : Nat) : (txAt i).size ≤ 1048576 := by
  match i with
  | 0 | 1 | 2 | 3 | 4 | 5 | 6 | 7 | 8 | 9 | 10 | 11 | 12 | 13 => decide +kernel
  | n + 14 => exact Nat.zero_le _
/-- What is read of the texts. -/
theorem txAt_read (i : Nat) (h : i < 14) : rdOk (txAt i) = true ∧ txN (txAt i) = (nmL[i]?.map (·.2.1)).getD 0 ∧ rdB (txAt i) = (nmL[i]?.map (·.2.2)).getD 0 := by
  match i, h with
  | 0, _ | 1, _ | 2, _ | 3, _ | 4, _ | 5, _ | 6, _ | 7, _ | 8, _ | 9, _ | 10, _ | 11, _ | 12, _ | 13, _ => decide +kernel

end Go.Proofs.Ytbdhlokbpbiijaa

/- Y5:
  Draws: a function of an arity. -/
namespace Go.Proofs.Ytbdhlokbpbiijaa
open Go.RowKit
set_option linter.unusedVariables false
set_option linter.unusedSimpArgs false

theorem SrcOk.set' {b : Nat} {a : Option Addr} {len cap : Nat} {W W0 : World} (S : SrcOk b a len cap W) (S0 : SrcOk b a len cap W0) {p : Addr} (hp : W0.heap.size ≤ p.block) (u : Value) : SrcOk b a len cap (W.setCell p u) := by
  have hb2 := S0.lt
  by_cases h0 : len = 0
  · obtain ⟨hl, hB, hne, at', h, hat, hS⟩ := S
    have e1 : ¬ p.block = b := by omega
    have key : ∀ (q : Addr), ¬ p.block = q.block → (W.setCell p u).cell? q = W.cell? q := fun q hq => World.cell?_of_block (w := W) (Below.heap_setCell W p u q.block (fun e => hq e.symm))
    exact ⟨hl, .inl h0, hne, at', h, hat, ⟨(key _ e1).trans hS.c0, (key _ e1).trans hS.c1, (key _ e1).trans hS.c2, by rw [World.frozen?_setCell]; exact hS.f1, by rw [World.frozen?_setCell]; exact hS.f2⟩⟩
  · refine S.set (W0 := W0) (fun _ g off e => ?_) hb2 hp u
    obtain ⟨_, hB, _⟩ := S0
    rcases hB with h | ⟨g', off', e', hc⟩
    · exact absurd h h0
    · rw [e] at e'
      cases e'
      obtain ⟨v, _, hcell⟩ := hc 0 (by omega)
      exact cell_lt hcell

/-- While a function is drawn: the source, and the box of the answer at block B. -/
structure DD (b : Nat) (a : Option Addr) (len cap : Nat) (w W : World) : Prop where
  S : SrcOk b a len cap W
  G : w.grownBy W (some b)
  c0 : W.cell? ⟨w.heap.size, 0, none⟩ = some (.int .i64 0)
  c1 : W.cell? ⟨w.heap.size, 1, none⟩ = some (.int .i64 0)
  f0 : W.frozen? ⟨w.heap.size, 0, none⟩ = false
  f1 : W.frozen? ⟨w.heap.size, 1, none⟩ = false
  ne : ¬ w.heap.size = b
theorem DD.next {b : Nat} {a : Option Addr} {len cap : Nat} {w W W' : World} (D : DD b a len cap w W) (S : SrcOk b a len cap W') (hg : W.grownBy W' (some b)) : DD b a len cap w W' :=
  ⟨S, gGo D.G hg, kcg hg D.ne D.c0, kcg hg D.ne D.c1, kfg hg D.ne D.c0 D.f0, kfg hg D.ne D.c1 D.f1, D.ne⟩
theorem DD.below {b : Nat} {a : Option Addr} {len cap : Nat} {w W W' : World} (D : DD b a len cap w W) (hb : Below W.heap.size W W') : DD b a len cap w W' :=
  ⟨D.S.below hb, gGo D.G (gOf hb b), kc hb D.c0, kc hb D.c1, kf hb D.c0 D.f0, kf hb D.c1 D.f1, D.ne⟩
theorem DD.new {b : Nat} {a : Option Addr} {len cap : Nat} {w : World} {T : TypeId} (S : SrcOk b a len cap w) : DD b a len cap w (w.alloc (.cells #[.int .i64 0, .int .i64 0] T)) :=
  ⟨S.below (bnew _ _), gOf (bnew _ _) b, by simp [go_sem], by simp [go_sem], by simp [go_sem], by simp [go_sem], by have := S.lt; omega⟩
theorem DD.done {b : Nat} {a : Option Addr} {len cap : Nat} {w W : World} (D : DD b a len cap w W) (S0 : SrcOk b a len cap w) (u v : Value) :
    SrcOk b a len cap ((W.setCell ⟨w.heap.size, 0, none⟩ u).setCell ⟨w.heap.size, 1, none⟩ v) ∧ w.grownBy ((W.setCell ⟨w.heap.size, 0, none⟩ u).setCell ⟨w.heap.size, 1, none⟩ v) (some b) :=
  ⟨(D.S.set' S0 (Nat.le_refl _) u).set' S0 (Nat.le_refl _) v, gSet (gSet D.G (p := ⟨w.heap.size, 0, none⟩) (Nat.le_refl _) u) (p := ⟨w.heap.size, 1, none⟩) (Nat.le_refl _) v⟩

/-- What a draw of a function of the arity n hands out. -/
def FunPost (b : Nat) (a : Option Addr) (len cap : Nat) (n : Int) (R : Nat) (w : World) (e : Ending) (w' : World) : Prop :=
  ∃ x : Nat, e = .returned (.agg #[.int .i64 n, .int .i64 (x : Int)]) ∧ x < 2 ^ R ∧ SrcOk b a len cap w' ∧ w.grownBy w' (some b)

theorem field1' (a b : Value) (w : World) : (Instr.field 25 (.agg #[a, b]) 1).run Try.prog w = .ok b w := by kernel_rfl
theorem beq_cast' (a b : Nat) : ((a : Int) == (b : Int)) = (a == b) := by
  rw [Bool.eq_iff_iff, beq_iff_eq, beq_iff_eq]; omega
theorem known_fun (j : Nat) (hj : j < 14) : isF (txN (txAt j)) (rdB (txAt j)) = true := by
  obtain ⟨_, h1, h2⟩ := txAt_read j hj
  rw [h1, h2]
  revert j
  decide
theorem fixN_lt' (n : Int) (x i v : Nat) : fixN n x i v < 2 ^ 2 ^ (n.toNat - 1) := sumN_lt _ _ (fun _ _ => bitN_le _ _)
theorem eight {k : Int} (h0 : 0 ≤ k) (h1 : k < 8) : k = 0 ∨ k = 1 ∨ k = 2 ∨ k = 3 ∨ k = 4 ∨ k = 5 ∨ k = 6 ∨ k = 7 := by omega

theorem ints_natL' (v : Nat → Nat) (k : Nat) : ints (natL v k) = valsN v k := by simp [ints, natL, valsN]
/-- The value of the sum of some variables, perhaps and 1. -/
def wV2 (m o r : Nat) : Nat := (ones (r &&& m) 16 + o) % 2
theorem wV2_le (m o r : Nat) : wV2 m o r ≤ 1 := by unfold wV2; omega
/-- 1 at all rows above one of two rows. -/
def wV3 (p q r : Nat) : Nat := if r &&& p = p ∨ r &&& q = q then 1 else 0
theorem wV3_le (p q r : Nat) : wV3 p q r ≤ 1 := by unfold wV3; split <;> omega
theorem fok16 (x : Nat) (hx : x < 16) : FOk (4 : Int) x 16 := ⟨by decide, by decide, by decide, by decide, Lib.hid (by decide), by omega, by decide, by omega⟩
theorem SrcOk.belowB {b : Nat} {a : Option Addr} {len cap : Nat} {W0 W W' : World} (S : SrcOk b a len cap W) (S0 : SrcOk b a len cap W0) {B : Nat} (hB : W0.heap.size ≤ B) (hb : Below B W W') : SrcOk b a len cap W' := by
  have hlt := S0.lt
  have key : ∀ (q : Addr) (u : Value), q.block < B → W.cell? q = some u → W'.cell? q = some u := fun q u hq h => (hb.cell hq).trans h
  have keyf : ∀ (q : Addr), q.block < B → W.frozen? q = false → W'.frozen? q = false := fun q hq h => (hb.frozen hq).trans h
  have hbB : b < B := by omega
  obtain ⟨hl, hBy, hne, at', h, hat, hS⟩ := S
  refine ⟨hl, ?_, hne, at', h, hat, ⟨key _ _ hbB hS.c0, key _ _ hbB hS.c1, key _ _ hbB hS.c2, keyf _ hbB hS.f1, keyf _ hbB hS.f2⟩⟩
  by_cases h0 : len = 0
  · exact .inl h0
  · rcases hBy with h1 | ⟨g, off, rfl, hc⟩
    · exact absurd h1 h0
    · have hg : g < W0.heap.size := by
        obtain ⟨_, hB0, _⟩ := S0
        rcases hB0 with h2 | ⟨g', off', e', hc'⟩
        · exact absurd h2 h0
        · cases e'
          obtain ⟨v, _, hcell⟩ := hc' 0 (by omega)
          exact cell_lt hcell
      refine .inr ⟨g, off, rfl, fun j hj => ?_⟩
      obtain ⟨v, hv, hcell⟩ := hc j hj
      exact ⟨v, hv, key ⟨g, off + j, none⟩ _ (by show g < B; omega) hcell⟩
theorem DD.belowB {b : Nat} {a : Option Addr} {len cap : Nat} {w W W' : World} (D : DD b a len cap w W) (S0 : SrcOk b a len cap w) {B : Nat} (hB : w.heap.size < B) (hb : Below B W W') : DD b a len cap w W' :=
  ⟨D.S.belowB S0 (Nat.le_of_lt hB) hb, ⟨hb.os.trans D.G.os, hb.tape.trans D.G.tape, hb.output.trans D.G.output, Nat.le_trans D.G.size hb.size, fun k hk hr => (hb.block k (by omega)).trans (D.G.block k hk hr)⟩,
    (hb.cell (p := ⟨w.heap.size, 0, none⟩) hB).trans D.c0, (hb.cell (p := ⟨w.heap.size, 1, none⟩) hB).trans D.c1, (hb.frozen (p := ⟨w.heap.size, 0, none⟩) hB).trans D.f0, (hb.frozen (p := ⟨w.heap.size, 1, none⟩) hB).trans D.f1, D.ne⟩

set_option maxRecDepth 100000 in
set_option maxHeartbeats 64000000 in
theorem drawOf_ok {b : Nat} {a : Option Addr} {len cap : Nat} {n : Int} {R : Nat} (h0 : 0 ≤ n) (h4 : n ≤ 4) (r0 : 0 < R) (r16 : R ≤ 16) (hR : Hid (rowsN n = (R : Int))) (he : R = 2 ^ n.toNat) (w : World) (S : SrcOk b a len cap w) :
    Calls Try.prog 113 #[.pointer (some ⟨b, 0, none⟩), .int .i64 n] w (FunPost b a len cap n R w) := by
  obtain ⟨i0, hi, hz0, hz1, hz2⟩ := info_parts infoI
  have S0 := Lib.hid S
  have HE := Lib.hid he
  obtain ⟨A, hA⟩ : ∃ A, A = 2 ^ R - 1 := ⟨_, rfl⟩
  have hA1 : A + 1 = 2 ^ R := by have := Nat.two_pow_pos R; omega
  have hA2 : A ≤ 65535 := by
    have : (2 : Nat) ^ R ≤ 2 ^ 16 := Nat.pow_le_pow_right (by decide) r16
    omega
  have AL := Lib.hid (fun w => (show Calls Try.prog 123 #[.int .i64 n] w fun e w' => e = .returned (.int .i64 (A : Int)) ∧ w = w' by rw [hA]; exact l01All_is h0 h4 he w))
  have HA := Lib.hid hA1
  clear hA hA1 he S
  have D1 := Lib.hid (DD.new (T := 25) S0.out)
  have S1 := Lib.hid D1.out.S
  obtain ⟨W1, hW1⟩ : ∃ W1, w.alloc (.cells #[.int .i64 0, .int .i64 0] 25) = W1 := ⟨_, rfl⟩
  rw [hW1] at D1 S1
  go_enter Try.func113, Try.ntmps113
  go_wp2_with (go_at_call 123; refine (AL.out _).mono ?_; rintro e w' ⟨rfl, rfl⟩)
  clear hW1
  refine (next_ok ((A : Int) + 1) (by omega) (by omega) _ S1.out).mono ?_
  rintro e w2 ⟨y', rfl, y0, y1, S2, hg2⟩
  obtain ⟨y, rfl⟩ := Int.eq_ofNat_of_zero_le y0
  have D2 := Lib.hid (D1.out.next S2 hg2)
  have hy : y < 2 ^ R := by rw [← HA.out]; omega
  have HY := Lib.hid hy
  obtain ⟨W3, hW3⟩ : ∃ W3, w2.alloc (.cells #[.int .i64 n, .int .i64 (y : Int)] 25) = W3 := ⟨_, rfl⟩
  have D3 := Lib.hid (show DD b a len cap w W3 by rw [← hW3]; exact D2.out.below (bnew _ _))
  have S3 := Lib.hid D3.out.S
  have o0 : W3.cell? ⟨w2.heap.size, 0, none⟩ = some (.int .i64 n) := by rw [← hW3]; simp [go_sem]
  have o1 : W3.cell? ⟨w2.heap.size, 1, none⟩ = some (.int .i64 (y : Int)) := by rw [← hW3]; simp [go_sem]
  have hob : ¬ w2.heap.size = b := by have := D2.out.S.lt; omega
  clear D1 S1 D2 S2 hg2 hy y0
  go_wp2_with fail
  clear hW3
  refine (next_ok 8 (by omega) (by omega) _ S3.out).mono ?_
  rintro e w4 ⟨k, rfl, k0, k1, S4, hg4⟩
  have D4 := Lib.hid (D3.out.next S4 hg4)
  have p0 := kcg hg4 hob o0
  have p1 := kcg hg4 hob o1
  have S4' := Lib.hid S4
  have hy := HY.out
  clear D3 S3 S4 hg4 o0 o1
  rcases eight k0 k1 with rfl | rfl | rfl | rfl | rfl | rfl | rfl | rfl
  · by_cases hn : 0 < n
    · have hq : decide (0 < n) = true := by simpa using hn
      go_wp2_with fail
      refine (next_ok n (by omega) (by omega) _ S4'.out).mono ?_
      rintro e w5 ⟨v', rfl, v0, v1, S5, hg5⟩
      obtain ⟨v, rfl⟩ := Int.eq_ofNat_of_zero_le v0
      have D5' := Lib.hid (D4.out.next S5 hg5)
      have hx : sumN (fun r => bitN r v) R < 2 ^ R := sumN_lt _ _ (fun _ _ => bitN_le _ _)
      clear S5 hg5
      go_wp2_with fail
      refine (l01Projection_any h0 h4 r0 r16 hR v (by omega) _).mono ?_
      rintro e w6 ⟨rfl, hb6⟩
      generalize sumN (fun r => bitN r v) R = z at hx
      have DX := D5'.out.below hb6
      have d0 := DX.c0
      have d1 := DX.c1
      have g0 := DX.f0
      have g1 := DX.f1
      go_wp2
      exact bodyPost_ret (v := .agg #[.int .i64 n, .int .i64 (z : Int)]) (by simp [results, Try.results113, go_sem, d0, d1]) rfl ⟨_, rfl, hx, (DX.done S0.out _ _).1, (DX.done S0.out _ _).2⟩
    · have hq : decide (0 < n) = false := by simpa using hn
      have DX := D4.out
      have d0 := DX.c0
      have d1 := DX.c1
      have g0 := DX.f0
      have g1 := DX.f1
      go_wp2
      exact bodyPost_ret (v := .agg #[.int .i64 n, .int .i64 (y : Int)]) (by simp [results, Try.results113, go_sem, d0, d1]) rfl ⟨_, rfl, hy, (DX.done S0.out _ _).1, (DX.done S0.out _ _).2⟩
  · go_wp2_with fail
    refine (next_ok 2 (by omega) (by omega) _ S4'.out).mono ?_
    rintro e w5 ⟨v', rfl, v0, v1, S5, hg5⟩
    obtain ⟨v, rfl⟩ := Int.eq_ofNat_of_zero_le v0
    have HV := Lib.hid (show (v : Int) * allN n = (sumN (fun _ => v) R : Int) from (sum_const HE.out (by omega)).symm)
    have hx : sumN (fun _ => v) R < 2 ^ R := sumN_lt _ _ (fun _ _ => by omega)
    generalize sumN (fun _ => v) R = z at HV hx
    have D5' := Lib.hid (D4.out.next S5 hg5)
    clear S5 hg5
    go_wp2_with fail
    refine (l01Constant_any h0 h4 v (by omega) _).mono ?_
    rintro e w6 ⟨rfl, hb6⟩
    rw [HV.out]
    have DX := D5'.out.below hb6
    have d0 := DX.c0
    have d1 := DX.c1
    have g0 := DX.f0
    have g1 := DX.f1
    go_wp2
    exact bodyPost_ret (v := .agg #[.int .i64 n, .int .i64 (z : Int)]) (by simp [results, Try.results113, go_sem, d0, d1]) rfl ⟨_, rfl, hx, (DX.done S0.out _ _).1, (DX.done S0.out _ _).2⟩
  · go_wp2_with (go_at_call 116; refine (l01Rows_is h0 h4 hR _).mono ?_; rintro e w' ⟨rfl, rfl⟩)
    refine (next_ok (R : Int) (by omega) (by omega) _ S4'.out).mono ?_
    rintro e w5 ⟨m', rfl, m0, m1, S5, hg5⟩
    obtain ⟨m, rfl⟩ := Int.eq_ofNat_of_zero_le m0
    have D5 := Lib.hid (D4.out.next S5 hg5)
    have D6 := Lib.hid (D5.out.below (bnew w5 (.cells #[] 2)))
    have S6 := Lib.hid D6.out.S
    have ow6 : Owns (w5.alloc (.cells #[] 2)) w5.heap.size (.slice (some ⟨w5.heap.size, 0, none⟩) 0 0) [] := World.ownsRow_lit w5 #[] 0 (Nat.le_refl _) (by decide) rfl
    have hb5 : b < w5.heap.size := D5.out.S.lt
    have ne5 : ¬ w5.heap.size = b := by omega
    have hw5 : w.heap.size < w5.heap.size := cell_lt D5.out.c0
    clear S5 hg5
    go_wp2_with fail
    refine (next_ok 2 (by omega) (by omega) _ S6.out).mono ?_
    rintro e w7 ⟨o', rfl, q0, q1, S7, hg7⟩
    obtain ⟨o, rfl⟩ := Int.eq_ofNat_of_zero_le q0
    have D7 := Lib.hid (D6.out.next S7 hg7)
    have OW := Lib.hid (show Owns w7 w5.heap.size (.slice (some ⟨w5.heap.size, 0, none⟩) 0 0) (natL (wV2 m o) 0) from World.ownsRow.kept ow6 hg7 (.inr (fun e => ne5 (by simpa [Value.ownBlock] using e))))
    have h57 : w5.heap.size ≤ w7.heap.size := by have := hg7.size; simp at this; omega
    have HVL := Lib.hid (fun r (_ : r < R) => wV2_le m o r)
    clear ow6 S7 hg7 S6 D6 D5
    go_wp2_with fail
    go_loopw [7, 9] (fun s' r' wr => ∃ k : Nat, k ≤ R ∧ r' = .int .i64 k ∧ Hid (Owns wr w5.heap.size s' (natL (wV2 m o) k)) ∧ Below w5.heap.size w7 wr) (fun _ r' _ => R - (intOf r').toNat)
    case atStart => exact ⟨0, Nat.zero_le _, rfl, OW, Below.refl _ _⟩
    case round =>
      clear OW
      obtain ⟨k, hk, rfl, HOWN, hN⟩ := hrel
      have hsz : w5.heap.size ≤ wr.heap.size := Nat.le_trans h57 hN.size
      by_cases hlt : k < R
      · have hlen := natL_len (wV2 m o) k
        have HS := Lib.hid (natL_succ (wV2 m o) k)
        have hkm : k &&& m < 16 := by
          have : k &&& m ≤ k := Nat.and_le_left
          omega
        have HAN := bits_and_i64 k m (by omega) (by omega)
        have hon := ones_le (k &&& m) 16
        have HQ := Lib.hid (show ((ones (k &&& m) 16 : Int) + (o : Int)) % 2 = (wV2 m o k : Int) by unfold wV2; omega)
        have WT := Lib.hid (l01Weight_any (fok16 (k &&& m) hkm))
        go_wp2_with (first
          | (go_at_call 116; refine (l01Rows_is h0 h4 hR _).mono ?_; rintro e w' ⟨rfl, rfl⟩)
          | (go_at_call 179; refine (WT.out _).mono ?_; rintro e w8 ⟨rfl, hb8⟩; have hN8 := hN.trans (hb8.mono hsz); have hs8 := hb8.size; have hown5 : World.ownsRow _ _ _ _ _ _ _ := HOWN.out.below hb8)
          | (at_builtin; refine wpList_append_own _ rfl _ _ 27 rfl w5.heap.size 2 i0 (.int .i64 0) 1 8 Try.underlying27 hi hz0 hz1 hz2 rfl (by decide) _ _ _ rfl (hown5.alloc _) ⟨w8.heap.size, 0, none⟩ 1 1 [.int .i64 (wV2 m o k : Int)] rfl rfl (by rw [← HQ.out]; exact cell_one_new _ _ _) (one_cell_int _) (by unfold maxLen; omega) (by omega) (by simp; omega) ?_))
        intro v' w1 hown' hgrow _
        rw [HQ.out] at hgrow
        have hN' := (hN8.alloc (by omega) (.cells #[.int .i64 (wV2 m o k : Int)] 2)).grown hgrow (by simp; omega) (fun j e => (hown5.lt j e).1)
        clear hgrow hown5
        go_wp2
        go_roundw
        case rel => exact ⟨k + 1, by omega, by go_num, Lib.hid (by rw [HS.out]; unfold Owns; rw [ints_snoc, List.length_append, natL_len]; exact hown'), hN'⟩
        case measure => simp [intOf]; omega
      · obtain rfl : R = k := by omega
        obtain ⟨gl, capl, rfl, hgl, hcl⟩ := owned_slice (v := wV2 m o) r0 (show wr.ownsRow w5.heap.size 2 1 _ R (valsN (wV2 m o) R) by
          have := HOWN.out
          unfold Owns at this
          rw [natL_len, ints_natL'] at this
          exact this)
        have D8 := Lib.hid (D7.out.belowB S0.out hw5 hN)
        have hx : sumN (wV2 m o) R < 2 ^ R := sumN_lt _ _ HVL.out
        clear HOWN hN
        go_wp2_with (go_at_call 116; refine (l01Rows_is h0 h4 hR _).mono ?_; rintro e w' ⟨rfl, rfl⟩)
        refine (l01Of_any h0 h4 r0 r16 hR gl capl (wV2 m o) HVL.out _ hgl hcl).mono ?_
        rintro e w9 ⟨rfl, hb9⟩
        have DX := D8.out.below hb9
        generalize sumN (wV2 m o) R = z at hx
        have d0 := DX.c0
        have d1 := DX.c1
        have g0 := DX.f0
        have g1 := DX.f1
        go_wp2
        exact bodyPost_ret (v := .agg #[.int .i64 n, .int .i64 (z : Int)]) (by simp [results, Try.results113, go_sem, d0, d1]) rfl ⟨_, rfl, hx, (DX.done S0.out _ _).1, (DX.done S0.out _ _).2⟩
  · obtain ⟨w5, hw5e⟩ : ∃ w5, w5 = w4 := ⟨_, rfl⟩
    have D6 := Lib.hid (D4.out.below (bnew w4 (.cells #[] 2)))
    have S6 := Lib.hid D6.out.S
    have ow6 : Owns (w4.alloc (.cells #[] 2)) w4.heap.size (.slice (some ⟨w4.heap.size, 0, none⟩) 0 0) [] := World.ownsRow_lit w4 #[] 0 (Nat.le_refl _) (by decide) rfl
    have hb5 : b < w4.heap.size := D4.out.S.lt
    have ne4 : ¬ w4.heap.size = b := by omega
    have hw5 : w.heap.size < w4.heap.size := cell_lt D4.out.c0
    go_wp2_with (go_at_call 116; refine (l01Rows_is h0 h4 hR _).mono ?_; rintro e w' ⟨rfl, rfl⟩)
    refine (next_ok (R : Int) (by omega) (by omega) _ S6.out).mono ?_
    rintro e w6 ⟨m', rfl, m0, m1, S7, hg6⟩
    obtain ⟨p, rfl⟩ := Int.eq_ofNat_of_zero_le m0
    have D7 := Lib.hid (D6.out.next S7 hg6)
    have S7' := Lib.hid D7.out.S
    have ow7 : Owns w6 w4.heap.size (.slice (some ⟨w4.heap.size, 0, none⟩) 0 0) [] := World.ownsRow.kept ow6 hg6 (.inr (fun e => ne4 (by simpa [Value.ownBlock] using e)))
    have h46 : w4.heap.size ≤ w6.heap.size := by have := hg6.size; simp at this; omega
    clear S7 hg6 ow6 S6 D6
    go_wp2_with (go_at_call 116; refine (l01Rows_is h0 h4 hR _).mono ?_; rintro e w' ⟨rfl, rfl⟩)
    refine (next_ok (R : Int) (by omega) (by omega) _ S7'.out).mono ?_
    rintro e w7 ⟨o', rfl, q0, q1, S8, hg7⟩
    obtain ⟨q, rfl⟩ := Int.eq_ofNat_of_zero_le q0
    have D7 := Lib.hid (D7.out.next S8 hg7)
    have OW := Lib.hid (show Owns w7 w4.heap.size (.slice (some ⟨w4.heap.size, 0, none⟩) 0 0) (natL (wV3 p q) 0) from World.ownsRow.kept ow7 hg7 (.inr (fun e => ne4 (by simpa [Value.ownBlock] using e))))
    have h57 : w4.heap.size ≤ w7.heap.size := Nat.le_trans h46 hg7.size
    have HVL := Lib.hid (fun r (_ : r < R) => wV3_le p q r)
    clear ow7 S8 hg7 S7'
    go_wp2_with fail
    go_loopw [10, 13] (fun s' r' wr => ∃ k : Nat, k ≤ R ∧ r' = .int .i64 k ∧ Hid (Owns wr w4.heap.size s' (natL (wV3 p q) k)) ∧ Below w4.heap.size w7 wr) (fun _ r' _ => R - (intOf r').toNat)
    case atStart => exact ⟨0, Nat.zero_le _, rfl, OW, Below.refl _ _⟩
    case round =>
      clear OW
      obtain ⟨k, hk, rfl, HOWN, hN⟩ := hrel
      have hsz : w4.heap.size ≤ wr.heap.size := Nat.le_trans h57 hN.size
      by_cases hlt : k < R
      · have hlen := natL_len (wV3 p q) k
        have HS := Lib.hid (natL_succ (wV3 p q) k)
        have HA1 := bits_and_i64 k p (by omega) (by omega)
        have HA2 := bits_and_i64 k q (by omega) (by omega)
        have HB1 := beq_cast' (k &&& p) p
        have HB2 := beq_cast' (k &&& q) q
        by_cases c1 : k &&& p = p
        · have e1 : (k &&& p == p) = true := by simp [c1]
          rw [e1] at HB1
          have hown5 : World.ownsRow _ _ _ _ _ _ _ := HOWN.out
          have HQ := Lib.hid (show wV3 p q k = 1 by unfold wV3; rw [if_pos (.inl c1)])
          clear c1 e1
          go_wp2_with (first
            | (go_at_call 116; refine (l01Rows_is h0 h4 hR _).mono ?_; rintro e w' ⟨rfl, rfl⟩)
            | (at_builtin; refine wpList_append_own _ rfl _ _ 27 rfl w4.heap.size 2 i0 (.int .i64 0) 1 8 Try.underlying27 hi hz0 hz1 hz2 rfl (by decide) _ _ _ rfl (hown5.alloc _) ⟨wr.heap.size, 0, none⟩ 1 1 [.int .i64 1] rfl rfl (cell_one_new _ _ _) (one_cell_int _) (by unfold maxLen; omega) (by omega) (by simp; omega) ?_))
          intro v' w1 hown' hgrow _
          have hN' := (hN.alloc (by omega) (.cells #[.int .i64 1] 2)).grown hgrow (by simp; omega) (fun j e => (hown5.lt j e).1)
          clear hgrow hown5
          go_wp2
          go_roundw
          case rel => exact ⟨k + 1, by omega, by go_num, Lib.hid (by rw [HS.out, HQ.out]; unfold Owns; rw [ints_snoc, List.length_append, natL_len]; exact hown'), hN'⟩
          case measure => simp [intOf]; omega
        · have e1 : (k &&& p == p) = false := by simp [c1]
          rw [e1] at HB1
          by_cases c2 : k &&& q = q
          · have e2 : (k &&& q == q) = true := by simp [c2]
            rw [e2] at HB2
            have hown5 : World.ownsRow _ _ _ _ _ _ _ := HOWN.out
            have HQ := Lib.hid (show wV3 p q k = 1 by unfold wV3; rw [if_pos (.inr c2)])
            clear c1 c2 e1 e2
            go_wp2_with (first
              | (go_at_call 116; refine (l01Rows_is h0 h4 hR _).mono ?_; rintro e w' ⟨rfl, rfl⟩)
              | (at_builtin; refine wpList_append_own _ rfl _ _ 27 rfl w4.heap.size 2 i0 (.int .i64 0) 1 8 Try.underlying27 hi hz0 hz1 hz2 rfl (by decide) _ _ _ rfl (hown5.alloc _) ⟨wr.heap.size, 0, none⟩ 1 1 [.int .i64 1] rfl rfl (cell_one_new _ _ _) (one_cell_int _) (by unfold maxLen; omega) (by omega) (by simp; omega) ?_))
            intro v' w1 hown' hgrow _
            have hN' := (hN.alloc (by omega) (.cells #[.int .i64 1] 2)).grown hgrow (by simp; omega) (fun j e => (hown5.lt j e).1)
            clear hgrow hown5
            go_wp2
            go_roundw
            case rel => exact ⟨k + 1, by omega, by go_num, Lib.hid (by rw [HS.out, HQ.out]; unfold Owns; rw [ints_snoc, List.length_append, natL_len]; exact hown'), hN'⟩
            case measure => simp [intOf]; omega
          · have e2 : (k &&& q == q) = false := by simp [c2]
            rw [e2] at HB2
            have hown5 : World.ownsRow _ _ _ _ _ _ _ := HOWN.out
            have HQ := Lib.hid (show wV3 p q k = 0 by unfold wV3; rw [if_neg (fun h => h.elim c1 c2)])
            clear c1 c2 e1 e2
            go_wp2_with (first
              | (go_at_call 116; refine (l01Rows_is h0 h4 hR _).mono ?_; rintro e w' ⟨rfl, rfl⟩)
              | (at_builtin; refine wpList_append_own _ rfl _ _ 27 rfl w4.heap.size 2 i0 (.int .i64 0) 1 8 Try.underlying27 hi hz0 hz1 hz2 rfl (by decide) _ _ _ rfl (hown5.alloc _) ⟨wr.heap.size, 0, none⟩ 1 1 [.int .i64 0] rfl rfl (cell_one_new _ _ _) (one_cell_int _) (by unfold maxLen; omega) (by omega) (by simp; omega) ?_))
            intro v' w1 hown' hgrow _
            have hN' := (hN.alloc (by omega) (.cells #[.int .i64 0] 2)).grown hgrow (by simp; omega) (fun j e => (hown5.lt j e).1)
            clear hgrow hown5
            go_wp2
            go_roundw
            case rel => exact ⟨k + 1, by omega, by go_num, Lib.hid (by rw [HS.out, HQ.out]; unfold Owns; rw [ints_snoc, List.length_append, natL_len]; exact hown'), hN'⟩
            case measure => simp [intOf]; omega
      · obtain rfl : R = k := by omega
        obtain ⟨gl, capl, rfl, hgl, hcl⟩ := owned_slice (v := wV3 p q) r0 (show wr.ownsRow w4.heap.size 2 1 _ R (valsN (wV3 p q) R) by
          have := HOWN.out
          unfold Owns at this
          rw [natL_len, ints_natL'] at this
          exact this)
        have D8 := Lib.hid (D7.out.belowB S0.out hw5 hN)
        have hx : sumN (wV3 p q) R < 2 ^ R := sumN_lt _ _ HVL.out
        clear HOWN hN
        go_wp2_with (go_at_call 116; refine (l01Rows_is h0 h4 hR _).mono ?_; rintro e w' ⟨rfl, rfl⟩)
        refine (l01Of_any h0 h4 r0 r16 hR gl capl (wV3 p q) HVL.out _ hgl hcl).mono ?_
        rintro e w9 ⟨rfl, hb9⟩
        have DX := D8.out.below hb9
        generalize sumN (wV3 p q) R = z at hx
        have d0 := DX.c0
        have d1 := DX.c1
        have g0 := DX.f0
        have g1 := DX.f1
        go_wp2
        exact bodyPost_ret (v := .agg #[.int .i64 n, .int .i64 (z : Int)]) (by simp [results, Try.results113, go_sem, d0, d1]) rfl ⟨_, rfl, hx, (DX.done S0.out _ _).1, (DX.done S0.out _ _).2⟩
  · go_wp2_with fail
    refine (l01Known_any _).mono ?_
    rintro e w5 ⟨rfl, hkn, hb5⟩
    have D5 := Lib.hid (D4.out.below hb5)
    have S5 := Lib.hid D5.out.S
    have hgb : ¬ w4.heap.size = b := by have := D4.out.S.lt; omega
    go_wp2_with fail
    refine (next_ok 14 (by omega) (by omega) _ S5.out).mono ?_
    rintro e w6 ⟨i', rfl, q0, q1, S6, hg6⟩
    obtain ⟨j, rfl⟩ := Int.eq_ofNat_of_zero_le q0
    have hj : j < 14 := by omega
    have hcj := kcg (p := ⟨w4.heap.size, j, none⟩) hg6 hgb (hkn.out j hj)
    have D6 := Lib.hid (D5.out.next S6 hg6)
    have p0 := kcg hg6 hob (kc hb5 p0)
    have p1 := kcg hg6 hob (kc hb5 p1)
    clear S6 hg6 hkn S5 D5
    have RD := Lib.hid fun W => l01Read_any (txAt j) (txAt_size j) W
    rw [(txAt_read j hj).1] at RD
    have HFO := Lib.hid (known_fun j hj)
    have HT := txAt_read j hj
    generalize txN (txAt j) = n' at RD HFO
    generalize rdB (txAt j) = b' at RD HFO
    obtain ⟨x', R', rfl, okx⟩ := fok HFO.out
    go_wp2_with fail
    refine (RD.out _ : Calls _ _ _ _ fun e w' => e = .returned (.tuple #[.agg #[.int .i64 n', .int .i64 (x' : Int)], .bool true]) ∧ Below w6.heap.size w6 w').mono ?_
    rintro e w7 ⟨rfl, hb7⟩
    have D7 := Lib.hid (D6.out.below hb7)
    have p0 := kc hb7 p0
    have p1 := kc hb7 p1
    obtain ⟨W8, hW8⟩ : ∃ W8, w7.alloc (.cells #[.int .i64 n', .int .i64 (x' : Int)] 25) = W8 := ⟨_, rfl⟩
    have hb8 : Below w7.heap.size w7 W8 := by rw [← hW8]; exact bnew _ _
    have D8 := Lib.hid (D7.out.below hb8)
    have r0' : W8.cell? ⟨w7.heap.size, 0, none⟩ = some (.int .i64 n') := by rw [← hW8]; simp [go_sem]
    have r1' : W8.cell? ⟨w7.heap.size, 1, none⟩ = some (.int .i64 (x' : Int)) := by rw [← hW8]; simp [go_sem]
    have p0 := kc hb8 p0
    have p1 := kc hb8 p1
    clear hb7 hb8 D6 D7 HT
    by_cases hn : n' = n
    · subst hn
      have hx : x' < 2 ^ R := by
        have e : R' = R := by rw [okx.he, HE.out]
        rw [← e]; exact okx.hB
      have hq : (n' == n') = true := by simp
      have DX := D8.out
      have d0 := DX.c0
      have d1 := DX.c1
      have g0 := DX.f0
      have g1 := DX.f1
      go_wp2_with fail
      exact bodyPost_ret (v := .agg #[.int .i64 n', .int .i64 (x' : Int)]) (by simp [results, Try.results113, go_sem, d0, d1]) rfl ⟨_, rfl, hx, (DX.done S0.out _ _).1, (DX.done S0.out _ _).2⟩
    · have hq : (n' == n) = false := by simp [hn]
      have DX := D8.out
      have d0 := DX.c0
      have d1 := DX.c1
      have g0 := DX.f0
      have g1 := DX.f1
      go_wp2
      exact bodyPost_ret (v := .agg #[.int .i64 n, .int .i64 (y : Int)]) (by simp [results, Try.results113, go_sem, d0, d1]) rfl ⟨_, rfl, hy, (DX.done S0.out _ _).1, (DX.done S0.out _ _).2⟩
  · by_cases hn : 0 < n
    · have hq : decide (0 < n) = true := by simpa using hn
      have ok : FOk n y R := ⟨h0, h4, r0, r16, hR, by
        have : (2 : Nat) ^ R ≤ 2 ^ 16 := Nat.pow_le_pow_right (by decide) r16
        omega, HE.out, hy⟩
      obtain ⟨z0, z8, hR2⟩ := ok.lesser (by omega)
      obtain ⟨i, hi'⟩ : ∃ i : Nat, i = n.toNat - 1 := ⟨_, rfl⟩
      have hin : (i : Int) = n - 1 := by omega
      have hfx : fixN n y i 0 < 2 ^ 2 ^ (n.toNat - 1) := fixN_lt' n y i 0
      have ok2 : FOk (n - 1) (fixN n y i 0) (2 ^ (n.toNat - 1)) := ⟨by omega, by omega, z0, by omega, hR2, by
        have : (2 : Nat) ^ 2 ^ (n.toNat - 1) ≤ 2 ^ 8 := Nat.pow_le_pow_right (by decide) z8
        omega, by rw [show (n - 1).toNat = n.toNat - 1 by omega], hfx⟩
      have eR : R = 2 ^ (n.toNat - 1) + 2 ^ (n.toNat - 1) := by
        have h3 : (2 : Nat) ^ ((n.toNat - 1) + 1) = 2 ^ (n.toNat - 1) * 2 := Nat.pow_succ 2 _
        rw [show (n.toNat - 1) + 1 = n.toNat by omega] at h3
        have h5 := HE.out
        omega
      have FX := Lib.hid (fun W => (show Calls Try.prog 182 #[.agg #[.int .i64 n, .int .i64 (y : Int)], .int .i64 (n - 1), .int .i64 0] W fun e w' => e = .returned (.agg #[.int .i64 (n - 1), .int .i64 (fixN n y i 0 : Int)]) ∧ Below W.heap.size W w' by
        have := l01Fix_any ok i 0 (by omega) (by omega) W
        rw [hin] at this
        exact this))
      have DU := Lib.hid (l01Dual_any ok2)
      have hdl : sumN (fun r => 1 - bitN (fixN n y i 0) (2 ^ (n.toNat - 1) - 1 - r)) (2 ^ (n.toNat - 1)) < 2 ^ 2 ^ (n.toNat - 1) := sumN_lt _ _ (fun _ _ => by omega)
      generalize sumN (fun r => 1 - bitN (fixN n y i 0) (2 ^ (n.toNat - 1) - 1 - r)) (2 ^ (n.toNat - 1)) = dl at DU hdl
      generalize fixN n y i 0 = fx at FX DU hfx ok2
      have RW2 := Lib.hid (fun W => l01Rows_is (n := n - 1) (by omega) (by omega) hR2 W)
      generalize 2 ^ (n.toNat - 1) = Q at eR RW2 hdl hfx z0 z8
      have hQ8 : (2 : Nat) ^ Q ≤ 2 ^ 8 := Nat.pow_le_pow_right (by decide) z8
      have hx : fx + dl * 2 ^ Q < 2 ^ R := by
        rw [eR, Nat.pow_add]
        have h1 : dl * 2 ^ Q ≤ (2 ^ Q - 1) * 2 ^ Q := Nat.mul_le_mul_right _ (by omega)
        have h2 : (2 ^ Q - 1) * 2 ^ Q + 2 ^ Q = 2 ^ Q * 2 ^ Q := by rw [← Nat.succ_mul]; congr 1; have := Nat.two_pow_pos Q; omega
        omega
      have hb16 : (2 : Nat) ^ R ≤ 2 ^ 16 := Nat.pow_le_pow_right (by decide) r16
      have eu : IntKind.u64.wrap (Q : Int) = (Q : Int) := by simp [IntKind.wrap, IntKind.bits, IntKind.signed]; omega
      have HVX := Lib.hid (show ∀ t, t = ((dl * 2 ^ Q : Nat) : Int) → IntKind.i64.wrap ((fx : Int) + t) = ((fx + dl * 2 ^ Q : Nat) : Int) from fun t ht => by rw [ht, ← Int.natCast_add]; exact wrap64_small (by omega) (by omega))
      have HSH := Lib.hid (show IntKind.i64.wrap ((dl : Int) * 2 ^ Q) = ((dl * 2 ^ Q : Nat) : Int) by
        have e : (dl : Int) * 2 ^ Q = ((dl * 2 ^ Q : Nat) : Int) := by push_cast; rfl
        rw [e]
        exact wrap64_small (by omega) (by have : dl * 2 ^ Q ≤ fx + dl * 2 ^ Q := Nat.le_add_left _ _; omega))
      have ew1 : IntKind.i64.wrap (n - 1) = n - 1 := wrap64_small (by omega) (by omega)
      clear hQ8 hfx hdl ok ok2 hi' hin eR
      go_wp2_with fail
      refine (FX.out _).mono ?_
      rintro e w5 ⟨rfl, hb5⟩
      have D5 := Lib.hid (D4.out.below hb5)
      have p0 := kc hb5 p0
      have p1 := kc hb5 p1
      obtain ⟨W6, hW6⟩ : ∃ W6, w5.alloc (.cells #[.int .i64 (n - 1), .int .i64 (fx : Int)] 25) = W6 := ⟨_, rfl⟩
      have hb6 : Below w5.heap.size w5 W6 := by rw [← hW6]; exact bnew _ _
      have D6 := Lib.hid (D5.out.below hb6)
      have u0 : W6.cell? ⟨w5.heap.size, 0, none⟩ = some (.int .i64 (n - 1)) := by rw [← hW6]; simp [go_sem]
      have u1 : W6.cell? ⟨w5.heap.size, 1, none⟩ = some (.int .i64 (fx : Int)) := by rw [← hW6]; simp [go_sem]
      clear hb5 hb6 D5 p0 p1
      have DX0 := D6.out
      have d0 := DX0.c0
      have d1 := DX0.c1
      have g0 := DX0.f0
      have g1 := DX0.f1
      go_wp2_with fail
      clear hW6
      have hfd := field1'
      go_region_with (first
        | (go_at_call 183; refine (DU.out _).mono ?_; rintro e w7 ⟨rfl, hb7⟩; have u0 := kcd hb7 u0; have u1 := kcd hb7 u1; have DX := (DX0.below (Below.refl _ _).drew).below hb7; have d0 := DX.c0; have d1 := DX.c1; have g0 := DX.f0; have g1 := DX.f1)
        | (go_at_call 116; refine (RW2.out _).mono ?_; rintro e w' ⟨rfl, rfl⟩))
      all_goals (rw [HSH.out, HVX.out _ rfl]; go_wp2; exact bodyPost_ret (v := .agg #[.int .i64 n, .int .i64 ((fx + dl * 2 ^ Q : Nat) : Int)]) (by simp [results, Try.results113, go_sem, d0, d1]) rfl ⟨_, rfl, hx, (DX.done S0.out _ _).1, (DX.done S0.out _ _).2⟩)
    · have hq : decide (0 < n) = false := by simpa using hn
      have DX := D4.out
      have d0 := DX.c0
      have d1 := DX.c1
      have g0 := DX.f0
      have g1 := DX.f1
      go_wp2
      exact bodyPost_ret (v := .agg #[.int .i64 n, .int .i64 (y : Int)]) (by simp [results, Try.results113, go_sem, d0, d1]) rfl ⟨_, rfl, hy, (DX.done S0.out _ _).1, (DX.done S0.out _ _).2⟩
  · have DX := D4.out
    have d0 := DX.c0
    have d1 := DX.c1
    have g0 := DX.f0
    have g1 := DX.f1
    go_wp2
    exact bodyPost_ret (v := .agg #[.int .i64 n, .int .i64 (y : Int)]) (by simp [results, Try.results113, go_sem, d0, d1]) rfl ⟨_, rfl, hy, (DX.done S0.out _ _).1, (DX.done S0.out _ _).2⟩
  · have DX := D4.out
    have d0 := DX.c0
    have d1 := DX.c1
    have g0 := DX.f0
    have g1 := DX.f1
    go_wp2
    exact bodyPost_ret (v := .agg #[.int .i64 n, .int .i64 (y : Int)]) (by simp [results, Try.results113, go_sem, d0, d1]) rfl ⟨_, rfl, hy, (DX.done S0.out _ _).1, (DX.done S0.out _ _).2⟩
end Go.Proofs.Ytbdhlokbpbiijaa

/- Y6:
  Draws: a function; a function that seldom is none. -/
namespace Go.Proofs.Ytbdhlokbpbiijaa
open Go.RowKit
set_option linter.unusedVariables false
set_option linter.unusedSimpArgs false

/-- What a draw of a function hands out. -/
def FnPost (b : Nat) (a : Option Addr) (len cap : Nat) (w : World) (e : Ending) (w' : World) : Prop :=
  ∃ (n : Int) (x R : Nat), FOk n x R ∧ e = .returned (.agg #[.int .i64 n, .int .i64 (x : Int)]) ∧ SrcOk b a len cap w' ∧ w.grownBy w' (some b)
/-- What a draw of a function that may be none hands out. -/
def AnyPost (b : Nat) (a : Option Addr) (len cap : Nat) (w : World) (e : Ending) (w' : World) : Prop :=
  ∃ (n x : Int), e = .returned (.agg #[.int .i64 n, .int .i64 x]) ∧ (-1 ≤ n ∧ n ≤ 1099511627776) ∧ (-1 ≤ x ∧ x ≤ 1099511627776) ∧ SrcOk b a len cap w' ∧ w.grownBy w' (some b)

theorem five' {k : Int} (h0 : 0 ≤ k) (h1 : k ≤ 4) : k = 0 ∨ k = 1 ∨ k = 2 ∨ k = 3 ∨ k = 4 := by omega
theorem rows_two {n : Int} (h0 : 0 ≤ n) (h4 : n ≤ 4) : 0 < 2 ^ n.toNat ∧ 2 ^ n.toNat ≤ 16 ∧ rowsN n = ((2 ^ n.toNat : Nat) : Int) ∧ 2 ^ 2 ^ n.toNat ≤ 65536 := by
  rcases five' h0 h4 with rfl | rfl | rfl | rfl | rfl <;> decide
theorem FOk.of {n : Int} {x : Nat} (h0 : 0 ≤ n) (h4 : n ≤ 4) (hx : x < 2 ^ 2 ^ n.toNat) : FOk n x (2 ^ n.toNat) := by
  obtain ⟨r0, r16, hR, hb⟩ := rows_two h0 h4
  exact ⟨h0, h4, r0, r16, Lib.hid hR, by omega, rfl, hx⟩

set_option maxRecDepth 100000 in
set_option maxHeartbeats 64000000 in
theorem draw_ok {b : Nat} {a : Option Addr} {len cap : Nat} (w : World) (S : SrcOk b a len cap w) :
    Calls Try.prog 219 #[.pointer (some ⟨b, 0, none⟩)] w (FnPost b a len cap w) := by
  have S0 := Lib.hid S
  have D1 := Lib.hid (DD.new (T := 25) S)
  obtain ⟨W1, hW1⟩ : ∃ W1, w.alloc (.cells #[.int .i64 0, .int .i64 0] 25) = W1 := ⟨_, rfl⟩
  rw [hW1] at D1
  obtain ⟨W2, hW2⟩ : ∃ W2, W1.alloc (.cells #[.int .i64 0, .int .i64 1, .int .i64 1, .int .i64 2, .int .i64 2, .int .i64 2, .int .i64 3, .int .i64 3, .int .i64 3, .int .i64 4, .int .i64 4] 2) = W2 := ⟨_, rfl⟩
  have D2 := Lib.hid (show DD b a len cap w W2 by rw [← hW2]; exact D1.out.below (bnew _ _))
  have hne : ¬ W1.heap.size = b := by have := D1.out.S.lt; omega
  have hc := Lib.hid (show ∀ j, j < 11 → W2.cell? ⟨W1.heap.size, j, none⟩ = some (.int .i64 (([0, 1, 1, 2, 2, 2, 3, 3, 3, 4, 4] : List Int).getD j 0)) by
    intro j hj
    rw [← hW2]
    have : j = 0 ∨ j = 1 ∨ j = 2 ∨ j = 3 ∨ j = 4 ∨ j = 5 ∨ j = 6 ∨ j = 7 ∨ j = 8 ∨ j = 9 ∨ j = 10 := by omega
    rcases this with rfl | rfl | rfl | rfl | rfl | rfl | rfl | rfl | rfl | rfl | rfl <;> simp [go_sem])
  have PK := Lib.hid (pick_ok 11 11 (by decide) (by decide) W1.heap.size (fun j => ([0, 1, 1, 2, 2, 2, 3, 3, 3, 4, 4] : List Int).getD j 0) W2 D2.out.S hne hc)
  clear hc S D1
  go_enter Try.func219, Try.ntmps219
  go_wp2_with fail
  refine PK.out.mono ?_
  rintro e w3 ⟨i, hi, rfl, S3, hg3⟩
  have D3 := Lib.hid (D2.out.next S3 hg3)
  have hv : 0 ≤ (([0, 1, 1, 2, 2, 2, 3, 3, 3, 4, 4] : List Int).getD i 0) ∧ (([0, 1, 1, 2, 2, 2, 3, 3, 3, 4, 4] : List Int).getD i 0) ≤ 4 := by
    have : i = 0 ∨ i = 1 ∨ i = 2 ∨ i = 3 ∨ i = 4 ∨ i = 5 ∨ i = 6 ∨ i = 7 ∨ i = 8 ∨ i = 9 ∨ i = 10 := by omega
    rcases this with rfl | rfl | rfl | rfl | rfl | rfl | rfl | rfl | rfl | rfl | rfl <;> decide
  dsimp only
  generalize (([0, 1, 1, 2, 2, 2, 3, 3, 3, 4, 4] : List Int).getD i 0) = n at hv
  obtain ⟨h0, h4⟩ := hv
  obtain ⟨r0, r16, hR, hb⟩ := rows_two h0 h4
  have DO := Lib.hid (drawOf_ok h0 h4 r0 r16 (Lib.hid hR) rfl w3 S3)
  clear S3 hg3 PK hW1 hW2 hR hb r0 r16
  go_wp2_with fail
  refine DO.out.mono ?_
  rintro e w4 ⟨x, rfl, hx, S4, hg4⟩
  have DX := D3.out.next S4 hg4
  have d0 := DX.c0
  have d1 := DX.c1
  have g0 := DX.f0
  have g1 := DX.f1
  clear S4 hg4
  have ok := Lib.hid (FOk.of h0 h4 hx)
  go_wp2_with fail
  exact bodyPost_ret (v := .agg #[.int .i64 n, .int .i64 (x : Int)]) (by simp [results, Try.results219, go_sem, d0, d1]) rfl ⟨n, x, _, ok.out, rfl, (DX.done S0.out _ _).1, (DX.done S0.out _ _).2⟩

set_option maxRecDepth 100000 in
set_option maxHeartbeats 64000000 in
theorem pick3_ok {b : Nat} {a : Option Addr} {len cap : Nat} (a0 a1 a2 : Int) (w : World) (S : SrcOk b a len cap w) :
    Calls Try.prog 102 #[.pointer (some ⟨b, 0, none⟩), .slice (some ⟨w.heap.size, 0, none⟩) 3 3] (w.alloc (.cells #[.int .i64 a0, .int .i64 a1, .int .i64 a2] 2)) fun e w' =>
      ∃ x, (x = a0 ∨ x = a1 ∨ x = a2) ∧ e = .returned (.int .i64 x) ∧ SrcOk b a len cap w' ∧ w.grownBy w' (some b) := by
  obtain ⟨W1, hW1⟩ : ∃ W1, w.alloc (.cells #[.int .i64 a0, .int .i64 a1, .int .i64 a2] 2) = W1 := ⟨_, rfl⟩
  have c0 : W1.cell? ⟨w.heap.size, 0, none⟩ = some (.int .i64 a0) := by rw [← hW1]; simp [go_sem]
  have c1 : W1.cell? ⟨w.heap.size, 1, none⟩ = some (.int .i64 a1) := by rw [← hW1]; simp [go_sem]
  have c2 : W1.cell? ⟨w.heap.size, 2, none⟩ = some (.int .i64 a2) := by rw [← hW1]; simp [go_sem]
  have hb : Below w.heap.size w W1 := by rw [← hW1]; exact bnew _ _
  have hne : ¬ w.heap.size = b := by have := S.lt; omega
  rw [hW1]
  refine (pick_ok 3 3 (by decide) (by decide) w.heap.size (fun j => if j = 0 then a0 else if j = 1 then a1 else a2) W1 (S.below hb) hne (Lib.hid fun j hj => by
    rcases (show j = 0 ∨ j = 1 ∨ j = 2 by omega) with rfl | rfl | rfl
    · exact c0
    · exact c1
    · exact c2)).mono ?_
  rintro e w4 ⟨i, hi, rfl, S4, hg4⟩
  refine ⟨_, ?_, rfl, S4, gGo (gOf hb b) hg4⟩
  rcases (show i = 0 ∨ i = 1 ∨ i = 2 by omega) with rfl | rfl | rfl
  · exact .inl rfl
  · exact .inr (.inl rfl)
  · exact .inr (.inr rfl)

set_option maxRecDepth 100000 in
set_option maxHeartbeats 64000000 in
theorem bad_ok {b : Nat} {a : Option Addr} {len cap : Nat} {n : Int} {x R : Nat} (ok : FOk n x R) (w : World) (S : SrcOk b a len cap w) :
    Calls Try.prog 104 #[.pointer (some ⟨b, 0, none⟩), .agg #[.int .i64 n, .int .i64 (x : Int)]] w (AnyPost b a len cap w) := by
  obtain ⟨h0, h4, r0, r16, hR, hb16, he, hx⟩ := ok
  obtain ⟨A, hA⟩ : ∃ A, A = 2 ^ R - 1 := ⟨_, rfl⟩
  have hA1 : A + 1 = 2 ^ R := by have := Nat.two_pow_pos R; omega
  have hA2 : A ≤ 65535 := by
    have : (2 : Nat) ^ R ≤ 2 ^ 16 := Nat.pow_le_pow_right (by decide) r16
    omega
  have AL := Lib.hid (fun w => (show Calls Try.prog 123 #[.int .i64 n] w fun e w' => e = .returned (.int .i64 (A : Int)) ∧ w = w' by rw [hA]; exact l01All_is h0 h4 he w))
  have hxA : x ≤ A := by omega
  clear hA hA1 he hR hb16 hx
  obtain ⟨W0, hW0⟩ : ∃ W0, w.alloc (.cells #[.int .i64 n, .int .i64 (x : Int)] 25) = W0 := ⟨_, rfl⟩
  have hb0 : Below w.heap.size w W0 := by rw [← hW0]; exact bnew _ _
  have S0 := Lib.hid (S.below hb0)
  have GG := Lib.hid (gOf hb0 b)
  have o0 : W0.cell? ⟨w.heap.size, 0, none⟩ = some (.int .i64 n) := by rw [← hW0]; simp [go_sem]
  have o1 : W0.cell? ⟨w.heap.size, 1, none⟩ = some (.int .i64 (x : Int)) := by rw [← hW0]; simp [go_sem]
  have hob : ¬ w.heap.size = b := by have := S.lt; omega
  have D1 := Lib.hid (DD.new (T := 25) S0.out)
  obtain ⟨W1, hW1⟩ : ∃ W1, W0.alloc (.cells #[.int .i64 0, .int .i64 0] 25) = W1 := ⟨_, rfl⟩
  rw [hW1] at D1
  have o0 := kcg D1.out.G hob o0
  have o1 := kcg D1.out.G hob o1
  have S1 := Lib.hid D1.out.S
  clear S hb0
  go_enter Try.func104, Try.ntmps104
  go_wp2_with fail
  refine (next_ok 50 (by omega) (by omega) _ S1.out).mono ?_
  rintro e w2 ⟨k, rfl, k0, k1, S2, hg2⟩
  have D2 := Lib.hid (D1.out.next S2 hg2)
  have o0 := kcg hg2 hob o0
  have o1 := kcg hg2 hob o1
  clear S2 hg2 hW0 hW1 S1 D1
  have HW := Lib.hid (show IntKind.i64.wrap ((A : Int) + 1) = (A : Int) + 1 from wrap64_small (by omega) (by omega))
  have hl2 : w.heap.size < w2.heap.size := cell_lt o0
  have hn2 : ¬ w.heap.size = w2.heap.size := by omega
  by_cases hk : k = 0
  · subst hk
    have DX0 := D2.out
    have d0 := DX0.c0
    have d1 := DX0.c1
    have g0 := DX0.f0
    have g1 := DX0.f1
    go_wp2_with fail
    go_region_with (first
      | (go_at_call 102; refine (pick3_ok _ _ _ _ (DX0.S.below (Below.refl _ _).drew)).mono ?_; rintro e w7 ⟨y, hy, rfl, S7, hg7⟩; have HY := Lib.hid hy; clear hy; have DX := (DX0.below (Below.refl _ _).drew).next S7 hg7; have o0 := kcg hg7 hob o0; have o1 := kcg hg7 hob o1; have d0 := DX.c0; have d1 := DX.c1; have g0 := DX.f0; have g1 := DX.f1))
    all_goals (go_wp2; exact bodyPost_ret (v := .agg #[.int .i64 y, .int .i64 (x : Int)]) (by simp [results, Try.results104, go_sem, d0, d1]) rfl ⟨y, x, rfl, (by have := HY.out; omega), (by omega), (DX.done S0.out _ _).1, gGo GG.out (DX.done S0.out _ _).2⟩)
  · have hq : (k == 0) = false := by simp [hk]
    by_cases hk1 : k = 1
    · subst hk1
      have DX0 := D2.out
      have d0 := DX0.c0
      have d1 := DX0.c1
      have g0 := DX0.f0
      have g1 := DX0.f1
      go_wp2_with fail
      go_region_with (first
        | (go_at_call 123; refine (AL.out _).mono ?_; rintro e w' ⟨rfl, rfl⟩)
        | (go_at_call 102; refine (pick3_ok _ _ _ _ (DX0.S.below (Below.refl _ _).drew)).mono ?_; rintro e w7 ⟨y, hy, rfl, S7, hg7⟩; have HY := Lib.hid hy; clear hy; have DX := (DX0.below (Below.refl _ _).drew).next S7 hg7; have o0 := kcg hg7 hob o0; have o1 := kcg hg7 hob o1; have d0 := DX.c0; have d1 := DX.c1; have g0 := DX.f0; have g1 := DX.f1))
      all_goals (go_wp2; exact bodyPost_ret (v := .agg #[.int .i64 n, .int .i64 y]) (by simp [results, Try.results104, go_sem, d0, d1]) rfl ⟨n, y, rfl, (by omega), (by have := HY.out; rw [HW.out] at this; omega), (DX.done S0.out _ _).1, gGo GG.out (DX.done S0.out _ _).2⟩)
    · have hq1 : (k == 1) = false := by simp [hk1]
      have DX := D2.out
      have d0 := DX.c0
      have d1 := DX.c1
      have g0 := DX.f0
      have g1 := DX.f1
      go_wp2_with fail
      exact bodyPost_ret (v := .agg #[.int .i64 n, .int .i64 (x : Int)]) (by simp [results, Try.results104, go_sem, d0, d1]) rfl ⟨n, x, rfl, by omega, by omega, (DX.done S0.out _ _).1, gGo GG.out (DX.done S0.out _ _).2⟩

set_option maxRecDepth 100000 in
set_option maxHeartbeats 64000000 in
theorem spoil_ok {b : Nat} {a : Option Addr} {len cap : Nat} (w : World) (S : SrcOk b a len cap w) :
    Calls Try.prog 190 #[.pointer (some ⟨b, 0, none⟩)] w (AnyPost b a len cap w) := by
  have S0 := Lib.hid S
  have D1 := Lib.hid (DD.new (T := 25) S)
  obtain ⟨W1, hW1⟩ : ∃ W1, w.alloc (.cells #[.int .i64 0, .int .i64 0] 25) = W1 := ⟨_, rfl⟩
  rw [hW1] at D1
  have DR := Lib.hid (draw_ok W1 D1.out.S)
  clear S
  go_enter Try.func190, Try.ntmps190
  go_wp2_with fail
  refine DR.out.mono ?_
  rintro e w2 ⟨n, x, R, ok, rfl, S2, hg2⟩
  have D2 := Lib.hid (D1.out.next S2 hg2)
  have BA := Lib.hid (bad_ok ok w2 S2)
  clear S2 hg2 ok hW1 DR D1
  go_wp2_with fail
  refine BA.out.mono ?_
  rintro e w3 ⟨n', x', rfl, hn, hx, S3, hg3⟩
  have DX := D2.out.next S3 hg3
  have d0 := DX.c0
  have d1 := DX.c1
  have g0 := DX.f0
  have g1 := DX.f1
  clear S3 hg3
  go_wp2_with fail
  exact bodyPost_ret (v := .agg #[.int .i64 n', .int .i64 x']) (by simp [results, Try.results190, go_sem, d0, d1]) rfl ⟨n', x', rfl, hn, hx, (DX.done S0.out _ _).1, (DX.done S0.out _ _).2⟩
end Go.Proofs.Ytbdhlokbpbiijaa

/- Y7:
  Draws of chapter 3 from a code: a function, two functions, a function and a number. -/
namespace Go.Proofs.Ytbdhlokbpbiijaa
open Go.RowKit
set_option linter.unusedVariables false
set_option linter.unusedSimpArgs false

theorem bGrown {b : Nat} {w w1 w2 : World} (h : Below w.heap.size w w1) (hb : w.heap.size ≤ b) (g : w1.grownBy w2 (some b)) : Below w.heap.size w w2 :=
  ⟨g.os.trans h.os, g.tape.trans h.tape, g.output.trans h.output, Nat.le_trans h.size g.size, fun k hk => (g.block k (Nat.lt_of_lt_of_le hk h.size) (by intro e; cases e; omega)).trans (h.block k hk)⟩
theorem Bytes.below {W W' : World} {a : Option Addr} {len : Nat} (h : Bytes W a len) (hb : Below W.heap.size W W') : Bytes W' a len := by
  rcases h with h0 | ⟨g, off, rfl, hc⟩
  · exact .inl h0
  · refine .inr ⟨g, off, rfl, fun j hj => ?_⟩
    obtain ⟨v, hv, hcell⟩ := hc j hj
    exact ⟨v, hv, kc hb hcell⟩
/-- A code in memory. -/
structure Code (W : World) (a : Option Addr) (len : Nat) : Prop where
  B : Bytes W a len
  lt : 0 < len → ∀ g off, a = some ⟨g, off, none⟩ → g < W.heap.size
theorem Code.below {W W' : World} {a : Option Addr} {len : Nat} (h : Code W a len) (hb : Below W.heap.size W W') : Code W' a len :=
  ⟨h.B.below hb, fun h0 g off e => Nat.lt_of_lt_of_le (h.lt h0 g off e) hb.size⟩

/-- A number that a draw hands out. -/
def Num (x : Int) : Prop := -4611686018427387904 ≤ x ∧ x ≤ 1099511627776
/-- What a draw of a function from a code hands out. -/
def OneB (w : World) (e : Ending) (w' : World) : Prop := ∃ n x : Int, e = .returned (.agg #[.int .i64 n, .int .i64 x]) ∧ Num n ∧ Num x ∧ Below w.heap.size w w'
/-- .. of two functions. -/
def TwoB (w : World) (e : Ending) (w' : World) : Prop := ∃ n x m y : Int, e = .returned (.tuple #[.agg #[.int .i64 n, .int .i64 x], .agg #[.int .i64 m, .int .i64 y]]) ∧ (Num n ∧ Num x) ∧ (Num m ∧ Num y) ∧ Below w.heap.size w w'
/-- .. of a function and a number. -/
def FunNumB (w : World) (e : Ending) (w' : World) : Prop := ∃ n x v : Int, e = .returned (.tuple #[.agg #[.int .i64 n, .int .i64 x], .int .i64 v]) ∧ (Num n ∧ Num x) ∧ Num v ∧ Below w.heap.size w w'

end Go.Proofs.Ytbdhlokbpbiijaa

/- Y8:
  Draws of chapter 3: two functions, mostly of the same arity. -/
namespace Go.Proofs.Ytbdhlokbpbiijaa
open Go.RowKit
set_option linter.unusedVariables false
set_option linter.unusedSimpArgs false

/-- Two boxes of answers at B0, B1. -/
structure Res2 (B0 B1 : Nat) (W : World) : Prop where
  c0 : W.cell? ⟨B0, 0, none⟩ = some (.int .i64 0)
  c1 : W.cell? ⟨B0, 1, none⟩ = some (.int .i64 0)
  c2 : W.cell? ⟨B1, 0, none⟩ = some (.int .i64 0)
  c3 : W.cell? ⟨B1, 1, none⟩ = some (.int .i64 0)
  f0 : W.frozen? ⟨B0, 0, none⟩ = false
  f1 : W.frozen? ⟨B0, 1, none⟩ = false
  f2 : W.frozen? ⟨B1, 0, none⟩ = false
  f3 : W.frozen? ⟨B1, 1, none⟩ = false
theorem Res2.below {B0 B1 : Nat} {W W' : World} (h : Res2 B0 B1 W) (hb : Below W.heap.size W W') : Res2 B0 B1 W' :=
  ⟨kc hb h.c0, kc hb h.c1, kc hb h.c2, kc hb h.c3, kf hb h.c0 h.f0, kf hb h.c1 h.f1, kf hb h.c2 h.f2, kf hb h.c3 h.f3⟩
theorem Res2.grown {B0 B1 b : Nat} {W W' : World} (h : Res2 B0 B1 W) (h0 : ¬ B0 = b) (h1 : ¬ B1 = b) (hg : W.grownBy W' (some b)) : Res2 B0 B1 W' :=
  ⟨kcg hg h0 h.c0, kcg hg h0 h.c1, kcg hg h1 h.c2, kcg hg h1 h.c3, kfg hg h0 h.c0 h.f0, kfg hg h0 h.c1 h.f1, kfg hg h1 h.c2 h.f2, kfg hg h1 h.c3 h.f3⟩
theorem Res2.set {B0 B1 X : Nat} {W : World} (h : Res2 B0 B1 W) (h0 : ¬ X = B0) (h1 : ¬ X = B1) (u v : Value) : Res2 B0 B1 ((W.setCell ⟨X, 0, none⟩ u).setCell ⟨X, 1, none⟩ v) := by
  obtain ⟨c0, c1, c2, c3, f0, f1, f2, f3⟩ := h
  exact ⟨by simp [go_sem, c0, h0], by simp [go_sem, c1, h0], by simp [go_sem, c2, h1], by simp [go_sem, c3, h1], by simp [go_sem, f0], by simp [go_sem, f1], by simp [go_sem, f2], by simp [go_sem, f3]⟩
/-- A box of a struct at X. -/
structure Box2 (X : Nat) (n x : Int) (W : World) : Prop where
  p0 : W.cell? ⟨X, 0, none⟩ = some (.int .i64 n)
  p1 : W.cell? ⟨X, 1, none⟩ = some (.int .i64 x)
  q0 : W.frozen? ⟨X, 0, none⟩ = false
  q1 : W.frozen? ⟨X, 1, none⟩ = false
theorem Box2.below {X : Nat} {n x : Int} {W W' : World} (h : Box2 X n x W) (hb : Below W.heap.size W W') : Box2 X n x W' := ⟨kc hb h.p0, kc hb h.p1, kf hb h.p0 h.q0, kf hb h.p1 h.q1⟩
theorem Box2.grown {X b : Nat} {n x : Int} {W W' : World} (h : Box2 X n x W) (h0 : ¬ X = b) (hg : W.grownBy W' (some b)) : Box2 X n x W' :=
  ⟨kcg hg h0 h.p0, kcg hg h0 h.p1, kfg hg h0 h.p0 h.q0, kfg hg h0 h.p1 h.q1⟩
theorem Box2.new {n x : Int} {W W' : World} {T : TypeId} (e : W.alloc (.cells #[.int .i64 n, .int .i64 x] T) = W') : Box2 W.heap.size n x W' := by
  rw [← e]
  exact ⟨by simp [go_sem], by simp [go_sem], by simp [go_sem], by simp [go_sem]⟩
theorem Box2.set {X : Nat} {n x m y : Int} {W : World} (h : Box2 X n x W) : Box2 X m y ((W.setCell ⟨X, 0, none⟩ (.int .i64 m)).setCell ⟨X, 1, none⟩ (.int .i64 y)) := by
  obtain ⟨p0, p1, q0, q1⟩ := h
  exact ⟨by simp [go_sem, p0, p1], by simp [go_sem, p0, p1], by simp [go_sem, q0], by simp [go_sem, q1]⟩
theorem Box2.far {X Y : Nat} {n x : Int} {W : World} (h : Box2 X n x W) (hXY : ¬ Y = X) (u v : Value) : Box2 X n x ((W.setCell ⟨Y, 0, none⟩ u).setCell ⟨Y, 1, none⟩ v) := by
  obtain ⟨p0, p1, q0, q1⟩ := h
  exact ⟨by simp [go_sem, p0, hXY], by simp [go_sem, p1, hXY], by simp [go_sem, q0], by simp [go_sem, q1]⟩
theorem res2_new {w W1 W2 : World} {T T' : TypeId} (e1 : w.alloc (.cells #[.int .i64 0, .int .i64 0] T) = W1) (e2 : W1.alloc (.cells #[.int .i64 0, .int .i64 0] T') = W2) : Res2 w.heap.size W1.heap.size W2 := by
  have b1 := Box2.new e1
  have b2 := Box2.new e2
  have hb : Below W1.heap.size W1 W2 := by rw [← e2]; exact bnew _ _
  have b1 := b1.below hb
  exact ⟨b1.p0, b1.p1, b2.p0, b2.p1, b1.q0, b1.q1, b2.q0, b2.q1⟩
theorem SrcOk.set2 {b : Nat} {a : Option Addr} {len cap : Nat} {W W0 : World} (S : SrcOk b a len cap W) (S0 : SrcOk b a len cap W0) {X : Nat} (hX : W0.heap.size ≤ X) (u v : Value) : SrcOk b a len cap ((W.setCell ⟨X, 0, none⟩ u).setCell ⟨X, 1, none⟩ v) :=
  (S.set' S0 (p := ⟨X, 0, none⟩) hX u).set' S0 (p := ⟨X, 1, none⟩) hX v

/-- Within l03Two: the source, the boxes of the answers, the boxes of the two functions. -/
structure TT (b : Nat) (a : Option Addr) (len cap : Nat) (w : World) (B1 bf bg : Nat) (n x m y : Int) (W : World) : Prop where
  S : SrcOk b a len cap W
  G : Below w.heap.size w W
  R : Res2 w.heap.size B1 W
  F : Box2 bf n x W
  H : Box2 bg m y W
  h0 : ¬ w.heap.size = b
  h1 : ¬ B1 = b
  h2 : ¬ bf = b
  h3 : ¬ bg = b
theorem TT.below {b : Nat} {a : Option Addr} {len cap : Nat} {w : World} {B1 bf bg : Nat} {n x m y : Int} {W W' : World} (T : TT b a len cap w B1 bf bg n x m y W) (hb : Below W.heap.size W W') : TT b a len cap w B1 bf bg n x m y W' :=
  ⟨T.S.below hb, bthen T.G hb, T.R.below hb, T.F.below hb, T.H.below hb, T.h0, T.h1, T.h2, T.h3⟩
theorem TT.next {b : Nat} {a : Option Addr} {len cap : Nat} {w : World} {B1 bf bg : Nat} {n x m y : Int} {W W' : World} (hle : w.heap.size ≤ b) (T : TT b a len cap w B1 bf bg n x m y W) (S : SrcOk b a len cap W') (hg : W.grownBy W' (some b)) : TT b a len cap w B1 bf bg n x m y W' :=
  ⟨S, bGrown T.G hle hg, T.R.grown T.h0 T.h1 hg, T.F.grown T.h2 hg, T.H.grown T.h3 hg, T.h0, T.h1, T.h2, T.h3⟩

end Go.Proofs.Ytbdhlokbpbiijaa

/- Y9:
  Draws: a number and a list of numbers, mostly the values of a function. -/
namespace Go.Proofs.Ytbdhlokbpbiijaa
open Go.RowKit
set_option linter.unusedVariables false
set_option linter.unusedSimpArgs false

/-- What a draw of a number and a list of numbers hands out. -/
def NumsB (w : World) (e : Ending) (w' : World) : Prop :=
  ∃ (n : Int) (xs : List Int) (s : Value), e = .returned (.tuple #[.int .i64 n, s]) ∧ Num n ∧ xs.length ≤ 100 ∧ Owns w' w.heap.size s xs ∧ Below w.heap.size w w'

theorem Owns.grownTo {W W' : World} {B b : Nat} {s : Value} {xs : List Int} (h : Owns W B s xs) (hg : W.grownBy W' (some b)) (hb : b < B) : Owns W' B s xs :=
  World.ownsRow.kept h hg (.inr fun e => by have := (World.ownsRow.lt h b e).1; omega)

set_option maxRecDepth 100000 in
set_option maxHeartbeats 64000000 in
theorem pick2_ok {b : Nat} {a : Option Addr} {len cap : Nat} (a0 a1 : Int) (w : World) (S : SrcOk b a len cap w) :
    Calls Try.prog 102 #[.pointer (some ⟨b, 0, none⟩), .slice (some ⟨w.heap.size, 0, none⟩) 2 2] (w.alloc (.cells #[.int .i64 a0, .int .i64 a1] 2)) fun e w' =>
      ∃ x, (x = a0 ∨ x = a1) ∧ e = .returned (.int .i64 x) ∧ SrcOk b a len cap w' ∧ w.grownBy w' (some b) := by
  obtain ⟨W1, hW1⟩ : ∃ W1, w.alloc (.cells #[.int .i64 a0, .int .i64 a1] 2) = W1 := ⟨_, rfl⟩
  have c0 : W1.cell? ⟨w.heap.size, 0, none⟩ = some (.int .i64 a0) := by rw [← hW1]; simp [go_sem]
  have c1 : W1.cell? ⟨w.heap.size, 1, none⟩ = some (.int .i64 a1) := by rw [← hW1]; simp [go_sem]
  have hb : Below w.heap.size w W1 := by rw [← hW1]; exact bnew _ _
  have hne : ¬ w.heap.size = b := by have := S.lt; omega
  rw [hW1]
  refine (pick_ok 2 2 (by decide) (by decide) w.heap.size (fun j => if j = 0 then a0 else a1) W1 (S.below hb) hne (Lib.hid fun j hj => by
    rcases (show j = 0 ∨ j = 1 by omega) with rfl | rfl
    · exact c0
    · exact c1)).mono ?_
  rintro e w4 ⟨i, hi, rfl, S4, hg4⟩
  refine ⟨_, ?_, rfl, S4, gGo (gOf hb b) hg4⟩
  rcases (show i = 0 ∨ i = 1 by omega) with rfl | rfl
  · exact .inl rfl
  · exact .inr rfl

end Go.Proofs.Ytbdhlokbpbiijaa

/- YA:
  A law over a code: what is kept over the calls (the code, boxes of structs, lists of the calls' own). -/
namespace Go.Proofs.Ytbdhlokbpbiijaa
open Go.RowKit
set_option linter.unusedVariables false
set_option linter.unusedSimpArgs false

/-- The state within a law: L the boxes (block, both cells), M the lists (base, slice, numbers). -/
structure LawSt (w : World) (a : Option Addr) (len : Nat) (L : List (Nat × Int × Int)) (M : List (Nat × Value × List Int)) (W : World) : Prop where
  G : Below w.heap.size w W
  C : Code W a len
  B : ∀ t, t ∈ L → W.cell? ⟨t.1, 0, none⟩ = some (.int .i64 t.2.1) ∧ W.cell? ⟨t.1, 1, none⟩ = some (.int .i64 t.2.2)
  O : ∀ t, t ∈ M → Owns W t.1 t.2.1 t.2.2
theorem LawSt.start {w : World} {a : Option Addr} {len : Nat} (C : Code w a len) : LawSt w a len [] [] w := ⟨Below.refl _ _, C, fun t h => by simp at h, fun t h => by simp at h⟩
theorem LawSt.below {w : World} {a : Option Addr} {len : Nat} {L : List (Nat × Int × Int)} {M : List (Nat × Value × List Int)} {W W' : World} (h : LawSt w a len L M W) (hb : Below W.heap.size W W') : LawSt w a len L M W' :=
  ⟨bthen h.G hb, h.C.below hb, fun t ht => ⟨kc hb (h.B t ht).1, kc hb (h.B t ht).2⟩, fun t ht => (h.O t ht).below hb⟩
theorem LawSt.drew {w : World} {a : Option Addr} {len : Nat} {L : List (Nat × Int × Int)} {M : List (Nat × Value × List Int)} {W : World} (h : LawSt w a len L M W) : LawSt w a len L M W.drew := h.below (Below.refl _ _).drew
theorem LawSt.box {w : World} {a : Option Addr} {len : Nat} {L : List (Nat × Int × Int)} {M : List (Nat × Value × List Int)} {W : World} (h : LawSt w a len L M W) (n x : Int) (T : TypeId) :
    LawSt w a len ((W.heap.size, n, x) :: L) M (W.alloc (.cells #[.int .i64 n, .int .i64 x] T)) := by
  have k := h.below (bnew W (.cells #[.int .i64 n, .int .i64 x] T))
  refine ⟨k.G, k.C, fun t ht => ?_, k.O⟩
  rcases List.mem_cons.mp ht with rfl | ht
  · exact ⟨by simp [go_sem], by simp [go_sem]⟩
  · exact k.B t ht
theorem LawSt.list {w : World} {a : Option Addr} {len : Nat} {L : List (Nat × Int × Int)} {M : List (Nat × Value × List Int)} {W : World} (h : LawSt w a len L M W) {base : Nat} {s : Value} {xs : List Int} (ho : Owns W base s xs) : LawSt w a len L ((base, s, xs) :: M) W :=
  ⟨h.G, h.C, h.B, fun t ht => by
    rcases List.mem_cons.mp ht with rfl | ht
    · exact ho
    · exact h.O t ht⟩
theorem LawSt.less {w : World} {a : Option Addr} {len : Nat} {L L' : List (Nat × Int × Int)} {M M' : List (Nat × Value × List Int)} {W : World} (h : LawSt w a len L M W) (hL : ∀ t, t ∈ L' → t ∈ L) (hM : ∀ t, t ∈ M' → t ∈ M) : LawSt w a len L' M' W :=
  ⟨h.G, h.C, fun t ht => h.B t (hL t ht), fun t ht => h.O t (hM t ht)⟩

set_option maxRecDepth 100000 in
set_option maxHeartbeats 2000000 in
theorem big_ok {a : Option Addr} {len cap : Nat} (w : World) :
    Calls Try.prog 10 #[.slice a len cap] w fun e w' => e = .returned (.bool (decide (4096 < len))) ∧ w = w' := by
  have e : decide ((4096 : Int) < (len : Int)) = decide (4096 < len) := by congr 1; exact propext (by omega)
  go_enter Try.func10, Try.ntmps10
  go_wp2
  go_ret
  simp [e]
theorem Num.wf {x : Int} (h : Num x) : (Lit.int .i64 x).wf = true := by
  obtain ⟨h1, h2⟩ := h
  simp [Lit.wf, IntKind.min, IntKind.max, IntKind.bits, IntKind.signed]
  omega
end Go.Proofs.Ytbdhlokbpbiijaa

/- LW:
  Parts of a long law: pieces of the code, taken out of the function's body. -/
namespace Go.Proofs.Ytbdhlokbpbiijaa
open Go.RowKit

/-- Is k the first region? -/
def starts (k : Nat) : Go.Code → Bool
  | .region n _ _ => Nat.beq n k
  | .seq a _ => starts k a
  | _ => false
def isIf (k : Nat) : Go.Code → Bool
  | .cond (.tmp n) _ _ => Nat.beq n k
  | _ => false
/-- The code from the region k on, to its sequence's end. -/
def fromReg (k : Nat) : Go.Code → Option Go.Code
  | .region n o b => match Nat.beq n k with
    | true => some (.region n o b)
    | false => none
  | .seq a b => match starts k a with
    | true => some (.seq a b)
    | false => match fromReg k a with
      | some c => some c
      | none => fromReg k b
  | .cond _ a b => match fromReg k a with
    | some c => some c
    | none => fromReg k b
  | .loop c => fromReg k c
  | .block _ c => fromReg k c
  | .scope c => fromReg k c
  | _ => none
/-- The region k alone. -/
def regAt (k : Nat) : Go.Code → Option Go.Code
  | .region n o b => match Nat.beq n k with
    | true => some (.region n o b)
    | false => none
  | .seq a b => match regAt k a with
    | some c => some c
    | none => regAt k b
  | .cond _ a b => match regAt k a with
    | some c => some c
    | none => regAt k b
  | .loop c => regAt k c
  | .block _ c => regAt k c
  | .scope c => regAt k c
  | _ => none
/-- The 'if' that asks the slot k. -/
def ifAt (k : Nat) : Go.Code → Option Go.Code
  | .seq a b => match ifAt k a with
    | some c => some c
    | none => ifAt k b
  | .cond o a b => match isIf k (.cond o a b) with
    | true => some (.cond o a b)
    | false => match ifAt k a with
      | some c => some c
      | none => ifAt k b
  | .loop c => ifAt k c
  | .block _ c => ifAt k c
  | .scope c => ifAt k c
  | _ => none
/-- A slice of bytes that came in is a code. -/
theorem codeOf {w : World} {a : Option Addr} {len cap : Nat} {zs : List Int} (h : IsRow .u8 w a len cap zs) : Code w a len := by
  obtain ⟨hz, hs⟩ := h.spot
  have hwf : ∀ n ∈ zs, 0 ≤ n ∧ n < 256 := by
    rcases h with ⟨_, _, _, rfl⟩ | ⟨x, rfl, _, _, _, _, hw⟩
    · simp
    · intro n hn
      have := hw n hn
      simp [Lit.wf, IntKind.min, IntKind.max, IntKind.bits, IntKind.signed] at this
      omega
  refine ⟨?_, ?_⟩
  · rcases hs with h0 | ⟨b, off, rfl, hb, hc⟩
    · exact .inl h0
    · refine .inr ⟨b, off, rfl, fun j hj => ?_⟩
      have hj2 : j < zs.length := by omega
      have hv := hwf zs[j] (List.getElem_mem hj2)
      refine ⟨zs[j].toNat, by omega, ?_⟩
      rw [hc.out j hj, List.getElem?_eq_getElem hj2]
      simp
      omega
  · intro h0 g off e
    rcases hs with h1 | ⟨b, off', rfl, hb, hc⟩
    · omega
    · cases e
      exact hb
end Go.Proofs.Ytbdhlokbpbiijaa

/- YB:
  The laws' own lists: likeInts. -/
namespace Go.Proofs.Ytbdhlokbpbiijaa
open Go.RowKit
set_option linter.unusedVariables false
set_option linter.unusedSimpArgs false

set_option maxRecDepth 100000 in
set_option maxHeartbeats 1000000 in
theorem likeInts_same {b1 b2 : Nat} {s1 s2 : Value} {xs : List Int} (hl : xs.length ≤ 100000000) (w : World) (h1 : Owns w b1 s1 xs) (h2 : Owns w b2 s2 xs) :
    Calls Try.prog 14 #[s1, s2] w fun e w' => e = .returned (.bool true) ∧ Below w.heap.size w w' := by
  rcases h1.shape with ⟨rfl, a, cap, rfl⟩ | ⟨hn, g, cap, rfl, _, hg, hc, _⟩
  · rcases h2.shape with ⟨_, a', cap', rfl⟩ | ⟨hn, _⟩
    · go_enter Try.func14, Try.ntmps14
      go_wp2
      refine wp_loop_rounds 1 ?_
      rw [rounds_succ]
      go_wp2
      go_ret
      exact ⟨rfl, Below.refl _ _⟩
    · simp at hn
  · rcases h2.shape with ⟨h0, _⟩ | ⟨_, g', cap', rfl, _, hg', hc', _⟩
    · rw [h0] at hn; simp at hn
    · clear h1 h2
      generalize xs.length = n at hl hn hc hc' ⊢
      go_enter Try.func14, Try.ntmps14
      go_wp2
      go_loopw [5] (fun i wr => ∃ k : Nat, k ≤ n ∧ i = .int .i64 k ∧ Below w.heap.size w wr) (fun i _ => n - (intOf i).toNat)
      case atStart => exact ⟨0, Nat.zero_le _, rfl, Below.refl _ _⟩
      case round =>
        obtain ⟨k, hk, rfl, hB⟩ := hrel
        by_cases hlt : k < n
        · have d1 := (hB.cell (p := ⟨g, k, none⟩) hg).trans (hc.out k hlt)
          have d2 := (hB.cell (p := ⟨g', k, none⟩) hg').trans (hc'.out k hlt)
          go_wp2
          go_quiet (fail)
          go_wp2
          go_roundw
          case rel => exact ⟨k + 1, by omega, by go_num, below_drewN hB _⟩
          case measure => simp [intOf]; omega
        · obtain rfl : k = n := by omega
          go_wp2
          go_ret
          exact ⟨rfl, hB⟩

end Go.Proofs.Ytbdhlokbpbiijaa

/- YC:
  Draws of chapter 2: a function that often is in a class. -/
namespace Go.Proofs.Ytbdhlokbpbiijaa
open Go.RowKit
set_option linter.unusedVariables false
set_option linter.unusedSimpArgs false

theorem or_next (b x r : Nat) (hb : b < 2 ^ r) (hx : x ≤ 1) (hr : r < 16) : bits .or .i64 (b : Int) (IntKind.i64.wrap ((x : Int) * 2 ^ r)) = ((b ||| (x <<< r) : Nat) : Int) ∧ (b ||| (x <<< r)) < 2 ^ (r + 1) := by
  have h1 : (2 : Nat) ^ r ≤ 2 ^ 15 := Nat.pow_le_pow_right (by decide) (by omega)
  refine ⟨or_step b x r (by omega) hx hr, ?_⟩
  apply Nat.or_lt_two_pow
  · rw [Nat.pow_succ]; omega
  · rw [Nat.shiftLeft_eq, Nat.pow_succ]
    have := Nat.two_pow_pos r
    have : x = 0 ∨ x = 1 := by omega
    rcases this with rfl | rfl <;> omega
theorem or_one (b r : Nat) (hb : b < 2 ^ r) (hr : r < 16) : bits .or .i64 (b : Int) (wrap64 (2 ^ r)) = ((b ||| (1 <<< r) : Nat) : Int) ∧ (b ||| (1 <<< r)) < 2 ^ (r + 1) := by
  obtain ⟨h1, h2⟩ := or_next b 1 r hb (Nat.le_refl _) hr
  refine ⟨?_, h2⟩
  rw [← h1]
  congr 1
  rw [show ((1 : Nat) : Int) * 2 ^ r = 2 ^ r by omega]
  simp [wrap64, IntKind.wrap, IntKind.bits, IntKind.signed]
  split <;> omega
theorem keep_next (b r : Nat) (hb : b < 2 ^ r) : b < 2 ^ (r + 1) := by rw [Nat.pow_succ]; omega
theorem bit01' (x i : Nat) : bitN x i = 0 ∨ bitN x i = 1 := by have := bitN_le x i; omega
theorem six {k : Int} (h0 : 0 ≤ k) (h1 : k < 6) : k = 0 ∨ k = 1 ∨ k = 2 ∨ k = 3 ∨ k = 4 ∨ k = 5 := by omega
theorem big_bits {x R : Nat} (h : x < 2 ^ R) (r16 : R ≤ 16) : x ≤ 65536 := by
  have : (2 : Nat) ^ R ≤ 2 ^ 16 := Nat.pow_le_pow_right (by decide) r16
  omega
theorem l01At_intI {n : Int} {x R : Nat} (ok : FOk n x R) (i : Int) (h0 : 0 ≤ i) (h1 : i < 62) (w : World) :
    Calls Try.prog 115 #[.agg #[.int .i64 n, .int .i64 (x : Int)], .int .i64 i] w fun e w' => e = .returned (.int .i64 (bitN x i.toNat : Int)) ∧ Below w.heap.size w w' := by
  obtain ⟨k, rfl⟩ := Int.eq_ofNat_of_zero_le h0
  exact l01At_any n x k ok.hx (by omega) w
end Go.Proofs.Ytbdhlokbpbiijaa
