/-
  Texts of functions, read by the model: l01Read.
-/
import Derived.Test.YtleighihfgabkaaDoorL4
namespace Go.Proofs.YtleighihfgabkaaDoor
open Go.RowKit
set_option linter.unusedVariables false

/-- The byte at a place. -/
def bt (s : ByteArray) (k : Nat) : Nat := if h : k < s.size then s[k].toNat else 0
theorem bt_eq {s : ByteArray} {k : Nat} (h : k < s.size) : (s[k].toNat : Int) = (bt s k : Int) := by simp [bt, h]
theorem bt_lt (s : ByteArray) (k : Nat) : bt s k < 256 := by
  unfold bt
  split
  · exact UInt8.toNat_lt _
  · decide

/-- The values that a text tells, the first j of them. -/
def xsTo (s : ByteArray) (j : Nat) : List Int := (List.range j).map fun r => (bt s (r + 2) : Int) - 48
theorem xsTo_succ (s : ByteArray) (j : Nat) : xsTo s (j + 1) = xsTo s j ++ [(bt s (j + 2) : Int) - 48] := by simp [xsTo, List.range_succ]
theorem xsTo_len (s : ByteArray) (j : Nat) : (xsTo s j).length = j := by simp [xsTo]
/-- The arity that a text tells. -/
def txN (s : ByteArray) : Int := (bt s 0 : Int) - 48

set_option maxRecDepth 100000 in
set_option maxHeartbeats 2000000 in
theorem l01Read_short (s : ByteArray) (hs : s.size ≤ 1048576) (h : s.size < 3 ∨ (3 ≤ s.size ∧ bt s 1 ≠ 58)) (w : World) :
    Calls Tryd.prog 106 #[.string s] w fun e w' => e = .returned (.tuple #[.agg #[.int .i64 0, .int .i64 0], .bool false]) ∧ Below w.heap.size w w' := by
  rcases h with h | ⟨h, h1⟩
  · go_enter Tryd.func106, Tryd.ntmps106
    go_wp2
    exact bodyPost_ret (v := .tuple #[.agg #[.int .i64 0, .int .i64 0], .bool false]) (by simp [results, Tryd.results106, go_sem]) rfl ⟨rfl, bnew _ _⟩
  · have hb := bt_eq (s := s) (k := 1) (by omega)
    have hne : ((bt s 1 : Int) != 58) = true := by simp; omega
    go_enter Tryd.func106, Tryd.ntmps106
    go_wp2
    exact bodyPost_ret (v := .tuple #[.agg #[.int .i64 0, .int .i64 0], .bool false]) (by simp [results, Tryd.results106, go_sem]) rfl ⟨rfl, bnew _ _⟩

set_option maxRecDepth 100000 in
set_option maxHeartbeats 2000000 in
theorem l01Read_arity (s : ByteArray) (hs : s.size ≤ 1048576) (h : 3 ≤ s.size) (h1 : bt s 1 = 58) (hn : inB (txN s) 0 4 = false) (w : World) :
    Calls Tryd.prog 106 #[.string s] w fun e w' => e = .returned (.tuple #[.agg #[.int .i64 0, .int .i64 0], .bool false]) ∧ Below w.heap.size w w' := by
  have hb := bt_eq (s := s) (k := 1) (by omega)
  have hb0 := bt_eq (s := s) (k := 0) (by omega)
  have hne : ((bt s 1 : Int) != 58) = false := by simp [h1]
  have hlt := bt_lt s 0
  unfold txN at hn
  clear h1
  go_enter Tryd.func106, Tryd.ntmps106
  go_wp2_with (go_at_call 45; refine (l01In_is hn _).mono ?_; rintro e w' ⟨rfl, rfl⟩)
  exact bodyPost_ret (v := .tuple #[.agg #[.int .i64 0, .int .i64 0], .bool false]) (by simp [results, Tryd.results106, go_sem]) rfl ⟨rfl, balloc (bnew _ _) _⟩

set_option maxRecDepth 100000 in
set_option maxHeartbeats 2000000 in
theorem l01Read_len (s : ByteArray) (hs : s.size ≤ 1048576) (h : 3 ≤ s.size) (h1 : bt s 1 = 58) (hn : inB (txN s) 0 4 = true) {R : Nat} (hR : Hid (rowsN (txN s) = (R : Int))) (r16 : R ≤ 16) (hz : s.size ≠ 2 + R) (w : World) :
    Calls Tryd.prog 106 #[.string s] w fun e w' => e = .returned (.tuple #[.agg #[.int .i64 0, .int .i64 0], .bool false]) ∧ Below w.heap.size w w' := by
  have hb := bt_eq (s := s) (k := 1) (by omega)
  have hb0 := bt_eq (s := s) (k := 0) (by omega)
  have hne : ((bt s 1 : Int) != 58) = false := by simp [h1]
  have hlt := bt_lt s 0
  have hn2 : 0 ≤ txN s ∧ txN s ≤ 4 := by simpa [inB] using hn
  have hze : ((s.size : Int) != 2 + (R : Int)) = true := by simp; omega
  have RW := Lib.hid (fun W => l01Rows_is hn2.1 hn2.2 hR W)
  unfold txN at hn RW
  clear h1 hz hn2
  go_enter Tryd.func106, Tryd.ntmps106
  go_wp2_with (first
    | (go_at_call 45; refine (l01In_is hn _).mono ?_; rintro e w' ⟨rfl, rfl⟩)
    | (go_at_call 103; refine (RW.out _).mono ?_; rintro e w' ⟨rfl, rfl⟩))
  exact bodyPost_ret (v := .tuple #[.agg #[.int .i64 0, .int .i64 0], .bool false]) (by simp [results, Tryd.results106, go_sem]) rfl ⟨rfl, balloc (bnew _ _) _⟩

/-- What l01Read answers at a text of the right length. -/
def ReadPost (ok : Bool) (n b : Int) (w : World) (e : Ending) (w' : World) : Prop := e = .returned (.tuple #[.agg #[.int .i64 (if ok then n else 0), .int .i64 (if ok then b else 0)], .bool ok]) ∧ Below w.heap.size w w'

set_option maxRecDepth 100000 in
set_option maxHeartbeats 4000000 in
theorem l01Read_long (s : ByteArray) (hs : s.size ≤ 1048576) (h : 3 ≤ s.size) (h1 : bt s 1 = 58) (hn : inB (txN s) 0 4 = true) {R : Nat} (r0 : 0 < R) (hR : Hid (rowsN (txN s) = (R : Int))) (r16 : R ≤ 16) (hz : s.size = 2 + R) (b : Bool) (hbb : ((xsTo s R).all fun v => inB v 0 1) = b) (w : World) :
    Calls Tryd.prog 106 #[.string s] w (ReadPost b (txN s) (sumN (dig (xsTo s R)) R : Int) w) := by
  obtain ⟨i0, hinf, hz0, hz1, hz2⟩ := info_parts infoI
  have hb := bt_eq (s := s) (k := 1) (by omega)
  have hb0 := bt_eq (s := s) (k := 0) (by omega)
  have hne : ((bt s 1 : Int) != 58) = false := by simp [h1]
  have hlt0 := bt_lt s 0
  have hn2 : 0 ≤ txN s ∧ txN s ≤ 4 := by simpa [inB] using hn
  have hze : ((s.size : Int) != 2 + (R : Int)) = false := by simp; omega
  have RW := Lib.hid (fun W => l01Rows_is hn2.1 hn2.2 hR W)
  have OF := Lib.hid (fun g cap W => l01Of_any hn2.1 hn2.2 r0 r16 hR g cap (dig (xsTo s R)) (w := W))
  have HBB := Lib.hid hbb
  unfold txN at hn RW OF
  unfold txN
  obtain ⟨W1, hW1⟩ : ∃ W1, w.alloc (.cells #[.int .i64 0, .int .i64 0] 24) = W1 := ⟨_, rfl⟩
  have c0 : W1.cell? ⟨w.heap.size, 0, none⟩ = some (.int .i64 0) := by rw [← hW1]; simp [go_sem]
  have c1 : W1.cell? ⟨w.heap.size, 1, none⟩ = some (.int .i64 0) := by rw [← hW1]; simp [go_sem]
  have f0 : W1.frozen? ⟨w.heap.size, 0, none⟩ = false := by rw [← hW1]; simp [go_sem]
  have f1 : W1.frozen? ⟨w.heap.size, 1, none⟩ = false := by rw [← hW1]; simp [go_sem]
  have hB : Below w.heap.size w W1 := by rw [← hW1]; exact bnew _ _
  have l0 : w.heap.size < W1.heap.size := cell_lt c0
  clear h1 hn2 hbb
  go_enter Tryd.func106, Tryd.ntmps106
  go_wp2_with (first
    | (go_at_call 45; refine (l01In_is hn _).mono ?_; rintro e w' ⟨rfl, rfl⟩)
    | (go_at_call 103; refine (RW.out _).mono ?_; rintro e w' ⟨rfl, rfl⟩))
  clear hW1
  go_loopw [5, 6] (fun s' i' wr => ∃ j : Nat, j ≤ R ∧ i' = .int .i64 ((j + 2 : Nat) : Int) ∧ Owns wr W1.heap.size s' (xsTo s j) ∧ Below W1.heap.size W1 wr)
    (fun _ i' _ => R + 2 - (intOf i').toNat)
  case atStart => exact ⟨0, Nat.zero_le _, rfl, World.ownsRow_lit W1 #[] 0 (Nat.le_refl _) (by decide) rfl, bnew _ _⟩
  case round =>
    obtain ⟨j, hj, rfl, hown, hN⟩ := hrel
    have hsz := hN.size
    by_cases hlt : j < R
    · have hjs : j + 2 < s.size := by omega
      have hbj := bt_eq (s := s) (k := j + 2) hjs
      have hbl := bt_lt s (j + 2)
      have HS := Lib.hid (xsTo_succ s j)
      have hlen := xsTo_len s j
      have hown5 : World.ownsRow _ _ _ _ _ _ _ := hown
      go_wp2_with (first
        | (at_builtin; refine wpList_append_own _ rfl _ _ 31 rfl W1.heap.size 2 i0 (.int .i64 0) 1 8 Tryd.underlying31 hinf hz0 hz1 hz2 rfl (by decide) _ _ _ rfl (hown5.alloc _) ⟨wr.heap.size, 0, none⟩ 1 1 [.int .i64 ((bt s (j + 2) : Int) - 48)] rfl rfl (cell_one_new _ _ _) (one_cell_int _) (by unfold maxLen; omega) (by omega) (by simp; omega) ?_))
      intro v' w1 hown' hgrow _
      have hN' := (balloc hN (.cells #[.int .i64 ((bt s (j + 2) : Int) - 48)] 2)).grown hgrow (by simp; omega) (fun j e => (hown5.lt j e).1)
      clear hgrow hown5 hown hN
      go_wp2
      go_roundw
      case rel => exact ⟨j + 1, by omega, by go_num, by rw [HS.out]; unfold Owns; rw [ints_snoc, List.length_append, xsTo_len]; exact hown', hN'⟩
      case measure => simp [intOf]; omega
    · obtain rfl : j = R := by omega
      have d0 := kc hN c0
      have d1 := kc hN c1
      have g0 := kf hN c0 f0
      have g1 := kf hN c1 f1
      have hB2 := bthen hB hN
      have HO := Lib.hid hown
      have BI := Lib.hid (l01Bits_any (by rw [xsTo_len]; omega) wr hown)
      rcases hown.shape with ⟨e0, _⟩ | ⟨hn0, g, cap, rfl, hbg, hg, hcc, hf⟩
      · have := xsTo_len s j; rw [e0] at this; simp at this; omega
      rw [xsTo_len] at hn0 hcc BI ⊢
      cases b
      · clear hown hcc hf HO
        go_wp2_with (go_at_call 115; refine (BI.out).mono ?_; rintro e w' ⟨he, rfl⟩; rw [HBB.out] at he; subst he)
        exact bodyPost_ret (v := .tuple #[.agg #[.int .i64 0, .int .i64 0], .bool false]) (by simp [results, Tryd.results106, go_sem, d0, d1]) rfl ⟨rfl, (hB2.setCell (p := ⟨w.heap.size, 0, none⟩) (by simp) _).setCell (p := ⟨w.heap.size, 1, none⟩) (by simp) _⟩
      · have hdi := dig_ok HBB.out
        rw [xsTo_len] at hdi
        have OF2 := Lib.hid (OF.out g cap wr (fun r hr => (hdi r hr).1) hg (Lib.hid fun i hi => by rw [hcc.out i hi, (hdi i hi).2]))
        clear hown hcc hf HO hdi
        go_wp2_with (first
          | (go_at_call 115; refine (BI.out).mono ?_; rintro e w' ⟨he, rfl⟩; rw [HBB.out] at he; subst he)
          | (go_at_call 104; refine OF2.out.mono ?_; rintro e w6 ⟨rfl, hb6⟩; have e0 := kc hb6 d0; have e1 := kc hb6 d1; have j0 := kf hb6 d0 g0; have j1 := kf hb6 d1 g1; have hB6 := bthen hB2 hb6))
        exact bodyPost_ret (v := .tuple #[.agg #[.int .i64 ((bt s 0 : Int) - 48), .int .i64 (sumN (dig (xsTo s j)) j : Int)], .bool true]) (by simp [results, Tryd.results106, go_sem, e0, e1]) rfl ⟨rfl, (hB6.setCell (p := ⟨w.heap.size, 0, none⟩) (by simp) _).setCell (p := ⟨w.heap.size, 1, none⟩) (by simp) _⟩

/-- The rows that a text tells. -/
def txR (s : ByteArray) : Nat := 2 ^ (txN s).toNat
/-- Whether a text is one of a function. -/
def rdOk (s : ByteArray) : Bool := decide (3 ≤ s.size) && (bt s 1 == 58 && (inB (txN s) 0 4 && (s.size == 2 + txR s && (xsTo s (txR s)).all fun v => inB v 0 1)))
/-- The bits that a text tells. -/
def rdB (s : ByteArray) : Int := (sumN (dig (xsTo s (txR s))) (txR s) : Int)

theorem l01Read_any (s : ByteArray) (hs : s.size ≤ 1048576) (w : World) :
    Calls Tryd.prog 106 #[.string s] w (ReadPost (rdOk s) (txN s) (rdB s) w) := by
  unfold rdOk
  by_cases h : 3 ≤ s.size
  · by_cases h1 : bt s 1 = 58
    · cases hn : inB (txN s) 0 4
      · simp only [h, h1]
        exact l01Read_arity s hs h h1 hn w
      · have hn2 : 0 ≤ txN s ∧ txN s ≤ 4 := by simpa [inB] using hn
        obtain ⟨R, hR, r0, r16, he⟩ := rowsN_eq hn2.1 hn2.2
        have hT : txR s = R := he.symm
        unfold rdB
        rw [hT]
        by_cases hz : s.size = 2 + R
        · have e : (s.size == 2 + R) = true := by simp [hz]
          simp only [h, h1, e, decide_true, Bool.true_and, beq_self_eq_true]
          exact l01Read_long s hs h h1 hn r0 (Lib.hid hR) r16 hz _ rfl w
        · have e : (s.size == 2 + R) = false := by simp [hz]
          simp only [h, h1, e, decide_true, Bool.true_and, beq_self_eq_true, Bool.false_and]
          exact l01Read_len s hs h h1 hn (Lib.hid hR) r16 hz w
    · have e : (bt s 1 == 58) = false := by simp [h1]
      simp only [h, e, decide_true, Bool.true_and, Bool.false_and]
      exact l01Read_short s hs (.inr ⟨h, h1⟩) w
  · simp only [h, decide_false, Bool.false_and]
    exact l01Read_short s hs (.inl (by omega)) w
end Go.Proofs.YtleighihfgabkaaDoor
