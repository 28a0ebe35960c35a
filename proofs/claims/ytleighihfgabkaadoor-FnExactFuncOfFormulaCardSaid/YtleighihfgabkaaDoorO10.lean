/-
  Formulas in the model: functions of formulas.
-/
import Derived.Test.YtleighihfgabkaaDoorO9
import Derived.Test.YtleighihfgabkaaDoorK1
namespace Go.Proofs.YtleighihfgabkaaDoor
open Go.RowKit
set_option linter.unusedVariables false
set_option linter.unusedSimpArgs false

/-- Which gate a byte is. -/
def gI (c : UInt8) : Nat := if c = 33 then 0 else if c = 38 then 1 else if c = 124 then 2 else if c = 94 then 3 else if c = 63 then 4 else 5
/-- The value of a formula at a row. -/
def Fm.ev : Fm → Nat → Nat
  | .leaf c, r => if c = 48 then 0 else if c = 49 then 1 else bitN r (c.toNat - 97)
  | .one c a, r => bitN (gX (gI c)) (a.ev r)
  | .two c a b, r => bitN (gX (gI c)) (a.ev r + 2 * b.ev r)
  | .three c a b d, r => bitN (gX (gI c)) (a.ev r + 2 * b.ev r + 4 * d.ev r)
theorem Fm.ev_le (f : Fm) (r : Nat) : f.ev r ≤ 1 := by
  cases f with
  | leaf c =>
    simp only [Fm.ev]
    split
    · decide
    · split
      · decide
      · exact bitN_le _ _
  | one c a => exact bitN_le _ _
  | two c a b => exact bitN_le _ _
  | three c a b d => exact bitN_le _ _
theorem FOk.repl {n : Int} {x R z : Nat} (ok : FOk n x R) (h : z < 2 ^ R) : FOk n z R := by
  obtain ⟨h0, h4, r0, r16, hR, hb, he, hx⟩ := ok
  have : (2 : Nat) ^ R ≤ 2 ^ 16 := Nat.pow_le_pow_right (by decide) r16
  exact ⟨h0, h4, r0, r16, hR, by omega, he, h⟩
theorem Fm.ev_ok {n : Int} {x R : Nat} (ok : FOk n x R) (f : Fm) : FOk n (sumN f.ev R) R := ok.repl (sumN_lt _ _ fun r _ => f.ev_le r)
/-- The functions of the formulas at the places. -/
def Fm.fs (f : Fm) (n : Int) (R j : Nat) : List (Int × Int) := (f.kids.take j).map fun g => (n, (sumN g.ev R : Int))
theorem Fm.fs_len (f : Fm) (n : Int) (R j : Nat) (h : j ≤ f.kids.length) : (f.fs n R j).length = j := by simp [Fm.fs, h]
theorem Fm.fs_succ (f : Fm) (n : Int) (R j : Nat) (h : j < f.kids.length) : f.fs n R (j + 1) = f.fs n R j ++ [(n, (sumN (f.kids[j]).ev R : Int))] := by
  unfold Fm.fs
  rw [List.take_succ_eq_append_getElem h, List.map_append]
  rfl
theorem Fm.fs_get (f : Fm) (n : Int) (R i : Nat) (h : i < f.kids.length) : fget (f.fs n R f.kids.length) i = (n, (sumN (f.kids[i]).ev R : Int)) := by simp [Fm.fs, fget, h]
theorem gt_ok : ∀ i < 6, isF (gM i : Int) (gX i : Int) = true := by decide +kernel
/-- A formula is a leaf or has a gate. -/
theorem Fm.sort {f : Fm} (w : f.wf) : (∃ c, f = .leaf c ∧ (c = 97 ∨ c = 98 ∨ c = 99 ∨ c = 100 ∨ c = 48 ∨ c = 49)) ∨ (∃ i, i < 6 ∧ f.head.toNat = gC i ∧ gM i = f.kids.length ∧ plI f.head = (f.kids.length : Int) ∧ 0 < f.kids.length ∧ f.head.toNat ≠ 48 ∧ f.head.toNat ≠ 49 ∧ ∀ n R, (∀ r, r < R → putN (f.fs n R f.kids.length) (gM i) (gX i) r = f.ev r)) := by
  have B : ∀ (g : Fm) (R r : Nat), r < R → bitN (sumN g.ev R) r = g.ev r := fun g R r hr => bitN_sum g.ev R (fun r _ => g.ev_le r) r hr
  cases f with
  | leaf c =>
    rcases plc_cases (show plc c = some 0 from w) with ⟨_, h⟩ | ⟨h, _⟩ | ⟨h, _⟩ | ⟨h, _⟩
    · exact .inl ⟨c, rfl, h⟩
    all_goals omega
  | one c a =>
    rcases plc_cases w.1 with ⟨h, _⟩ | ⟨_, rfl⟩ | ⟨h, _⟩ | ⟨h, _⟩
    · omega
    · refine .inr ⟨0, by decide, rfl, rfl, rfl, Nat.zero_lt_succ _, by simp [Fm.head], by simp [Fm.head], fun n R r hr => ?_⟩
      simp only [putN, putRow, gM, gtL, sumN, Fm.fs, Fm.kids, fget, Fm.ev, List.length_cons, List.length_nil, List.take_succ_cons, List.take_zero, List.map_cons, List.map_nil, List.getElem?_cons_zero, List.getElem?_cons_succ, Option.getD_some, Option.map_some, Int.toNat_natCast, B _ R r hr]
      congr 1
      omega
    all_goals omega
  | two c a b =>
    rcases plc_cases w.1 with ⟨h, _⟩ | ⟨h, _⟩ | ⟨_, h⟩ | ⟨h, _⟩
    · omega
    · omega
    · rcases h with rfl | rfl | rfl
      · refine .inr ⟨1, by decide, rfl, rfl, rfl, Nat.zero_lt_succ _, by simp [Fm.head], by simp [Fm.head], fun n R r hr => ?_⟩
        simp only [putN, putRow, gM, gtL, sumN, Fm.fs, Fm.kids, fget, Fm.ev, List.length_cons, List.length_nil, List.take_succ_cons, List.take_zero, List.map_cons, List.map_nil, List.getElem?_cons_zero, List.getElem?_cons_succ, Option.getD_some, Option.map_some, Int.toNat_natCast, B _ R r hr]
        congr 1
        omega
      · refine .inr ⟨2, by decide, rfl, rfl, rfl, Nat.zero_lt_succ _, by simp [Fm.head], by simp [Fm.head], fun n R r hr => ?_⟩
        simp only [putN, putRow, gM, gtL, sumN, Fm.fs, Fm.kids, fget, Fm.ev, List.length_cons, List.length_nil, List.take_succ_cons, List.take_zero, List.map_cons, List.map_nil, List.getElem?_cons_zero, List.getElem?_cons_succ, Option.getD_some, Option.map_some, Int.toNat_natCast, B _ R r hr]
        congr 1
        omega
      · refine .inr ⟨3, by decide, rfl, rfl, rfl, Nat.zero_lt_succ _, by simp [Fm.head], by simp [Fm.head], fun n R r hr => ?_⟩
        simp only [putN, putRow, gM, gtL, sumN, Fm.fs, Fm.kids, fget, Fm.ev, List.length_cons, List.length_nil, List.take_succ_cons, List.take_zero, List.map_cons, List.map_nil, List.getElem?_cons_zero, List.getElem?_cons_succ, Option.getD_some, Option.map_some, Int.toNat_natCast, B _ R r hr]
        congr 1
        omega
    · omega
  | three c a b d =>
    rcases plc_cases w.1 with ⟨h, _⟩ | ⟨h, _⟩ | ⟨h, _⟩ | ⟨_, h⟩
    · omega
    · omega
    · omega
    · rcases h with rfl | rfl
      · refine .inr ⟨4, by decide, rfl, rfl, rfl, Nat.zero_lt_succ _, by simp [Fm.head], by simp [Fm.head], fun n R r hr => ?_⟩
        simp only [putN, putRow, gM, gtL, sumN, Fm.fs, Fm.kids, fget, Fm.ev, List.length_cons, List.length_nil, List.take_succ_cons, List.take_zero, List.map_cons, List.map_nil, List.getElem?_cons_zero, List.getElem?_cons_succ, Option.getD_some, Option.map_some, Int.toNat_natCast, B _ R r hr]
        congr 1
        omega
      · refine .inr ⟨5, by decide, rfl, rfl, rfl, Nat.zero_lt_succ _, by simp [Fm.head], by simp [Fm.head], fun n R r hr => ?_⟩
        simp only [putN, putRow, gM, gtL, sumN, Fm.fs, Fm.kids, fget, Fm.ev, List.length_cons, List.length_nil, List.take_succ_cons, List.take_zero, List.map_cons, List.map_nil, List.getElem?_cons_zero, List.getElem?_cons_succ, Option.getD_some, Option.map_some, Int.toNat_natCast, B _ R r hr]
        congr 1
        omega
set_option maxRecDepth 100000 in
set_option maxHeartbeats 8000000 in
theorem l05Func_leaf48 {n : Int} {R : Nat} (ok : FOk n 0 R) {T : ByteArray} (hz0 : 0 < T.size) (hT : T[0] = 48) (hsz : T.size ≤ 1048576) (w : World) :
    Calls Tryd.prog 47 #[.int .i64 n, .string T] w fun e w' => e = .returned (.agg #[.int .i64 n, .int .i64 ((0 : Nat) * allN n)]) ∧ Below w.heap.size w w' := by
  have hb : T[0].toNat = 48 := by rw [hT]; rfl
  have P := Lib.hid (fun w => (show Calls Tryd.prog 78 #[.int .u8 48] w fun e w' => e = .returned (.int .i64 0) ∧ w = w' from l05Places_any 48 w))
  obtain ⟨W1, hW1⟩ : ∃ W1, w.alloc (.cells #[.int .i64 0, .int .i64 0] 24) = W1 := ⟨_, rfl⟩
  have hb1 : Below w.heap.size w W1 := by rw [← hW1]; exact bnew _ _
  have c0 : W1.cell? ⟨w.heap.size, 0, none⟩ = some (.int .i64 0) := by rw [← hW1]; simp [go_sem]
  have c1 : W1.cell? ⟨w.heap.size, 1, none⟩ = some (.int .i64 0) := by rw [← hW1]; simp [go_sem]
  have f0 : W1.frozen? ⟨w.heap.size, 0, none⟩ = false := by rw [← hW1]; simp [go_sem]
  have f1 : W1.frozen? ⟨w.heap.size, 1, none⟩ = false := by rw [← hW1]; simp [go_sem]
  clear hT
  go_enter Tryd.func47, Tryd.ntmps47
  go_wp2_with (first | (go_at_call 77; refine (l01Constant_any ok.h0 ok.h4 0 (by decide) _).mono ?_; rintro e w2 ⟨rfl, hb2⟩; have d0 := kc hb2 c0; have d1 := kc hb2 c1; have g0 := kf hb2 c0 f0; have g1 := kf hb2 c1 f1; have HB2 := Lib.hid (bthen hb1 hb2)))
  exact bodyPost_ret (v := .agg #[.int .i64 n, .int .i64 ((0 : Nat) * allN n)]) (by simp [results, Tryd.results47, go_sem, d0, d1]) rfl ⟨rfl, (HB2.out.setCell (p := ⟨w.heap.size, 0, none⟩) (Nat.le_refl _) _).setCell (p := ⟨w.heap.size, 1, none⟩) (Nat.le_refl _) _⟩
set_option maxRecDepth 100000 in
set_option maxHeartbeats 8000000 in
theorem l05Func_leaf49 {n : Int} {R : Nat} (ok : FOk n 0 R) {T : ByteArray} (hz0 : 0 < T.size) (hT : T[0] = 49) (hsz : T.size ≤ 1048576) (w : World) :
    Calls Tryd.prog 47 #[.int .i64 n, .string T] w fun e w' => e = .returned (.agg #[.int .i64 n, .int .i64 ((1 : Nat) * allN n)]) ∧ Below w.heap.size w w' := by
  have hb : T[0].toNat = 49 := by rw [hT]; rfl
  have P := Lib.hid (fun w => (show Calls Tryd.prog 78 #[.int .u8 49] w fun e w' => e = .returned (.int .i64 0) ∧ w = w' from l05Places_any 49 w))
  obtain ⟨W1, hW1⟩ : ∃ W1, w.alloc (.cells #[.int .i64 0, .int .i64 0] 24) = W1 := ⟨_, rfl⟩
  have hb1 : Below w.heap.size w W1 := by rw [← hW1]; exact bnew _ _
  have c0 : W1.cell? ⟨w.heap.size, 0, none⟩ = some (.int .i64 0) := by rw [← hW1]; simp [go_sem]
  have c1 : W1.cell? ⟨w.heap.size, 1, none⟩ = some (.int .i64 0) := by rw [← hW1]; simp [go_sem]
  have f0 : W1.frozen? ⟨w.heap.size, 0, none⟩ = false := by rw [← hW1]; simp [go_sem]
  have f1 : W1.frozen? ⟨w.heap.size, 1, none⟩ = false := by rw [← hW1]; simp [go_sem]
  clear hT
  go_enter Tryd.func47, Tryd.ntmps47
  go_wp2_with (first | (go_at_call 77; refine (l01Constant_any ok.h0 ok.h4 1 (by decide) _).mono ?_; rintro e w2 ⟨rfl, hb2⟩; have d0 := kc hb2 c0; have d1 := kc hb2 c1; have g0 := kf hb2 c0 f0; have g1 := kf hb2 c1 f1; have HB2 := Lib.hid (bthen hb1 hb2)))
  exact bodyPost_ret (v := .agg #[.int .i64 n, .int .i64 ((1 : Nat) * allN n)]) (by simp [results, Tryd.results47, go_sem, d0, d1]) rfl ⟨rfl, (HB2.out.setCell (p := ⟨w.heap.size, 0, none⟩) (Nat.le_refl _) _).setCell (p := ⟨w.heap.size, 1, none⟩) (Nat.le_refl _) _⟩
set_option maxRecDepth 100000 in
set_option maxHeartbeats 8000000 in
theorem l05Func_leaf97 {n : Int} {R : Nat} (ok : FOk n 0 R) {T : ByteArray} (hz0 : 0 < T.size) (hT : T[0] = 97) (hsz : T.size ≤ 1048576) (w : World) :
    Calls Tryd.prog 47 #[.int .i64 n, .string T] w fun e w' => e = .returned (.agg #[.int .i64 n, .int .i64 (sumN (fun r => bitN r 0) R : Int)]) ∧ Below w.heap.size w w' := by
  have hb : T[0].toNat = 97 := by rw [hT]; rfl
  have P := Lib.hid (fun w => (show Calls Tryd.prog 78 #[.int .u8 97] w fun e w' => e = .returned (.int .i64 0) ∧ w = w' from l05Places_any 97 w))
  obtain ⟨W1, hW1⟩ : ∃ W1, w.alloc (.cells #[.int .i64 0, .int .i64 0] 24) = W1 := ⟨_, rfl⟩
  have hb1 : Below w.heap.size w W1 := by rw [← hW1]; exact bnew _ _
  have c0 : W1.cell? ⟨w.heap.size, 0, none⟩ = some (.int .i64 0) := by rw [← hW1]; simp [go_sem]
  have c1 : W1.cell? ⟨w.heap.size, 1, none⟩ = some (.int .i64 0) := by rw [← hW1]; simp [go_sem]
  have f0 : W1.frozen? ⟨w.heap.size, 0, none⟩ = false := by rw [← hW1]; simp [go_sem]
  have f1 : W1.frozen? ⟨w.heap.size, 1, none⟩ = false := by rw [← hW1]; simp [go_sem]
  clear hT
  go_enter Tryd.func47, Tryd.ntmps47
  go_wp2_with (first | (go_at_call 78; refine (P.out _).mono ?_; rintro e w' ⟨rfl, rfl⟩) | (go_at_call 79; refine (l01Projection_any ok.h0 ok.h4 ok.r0 ok.r16 ok.hR 0 (by decide) _).mono ?_; rintro e w2 ⟨rfl, hb2⟩; have d0 := kc hb2 c0; have d1 := kc hb2 c1; have g0 := kf hb2 c0 f0; have g1 := kf hb2 c1 f1; have HB2 := Lib.hid (bthen hb1 hb2)))
  exact bodyPost_ret (v := .agg #[.int .i64 n, .int .i64 (sumN (fun r => bitN r 0) R : Int)]) (by simp [results, Tryd.results47, go_sem, d0, d1]) rfl ⟨rfl, (HB2.out.setCell (p := ⟨w.heap.size, 0, none⟩) (Nat.le_refl _) _).setCell (p := ⟨w.heap.size, 1, none⟩) (Nat.le_refl _) _⟩
set_option maxRecDepth 100000 in
set_option maxHeartbeats 8000000 in
theorem l05Func_leaf98 {n : Int} {R : Nat} (ok : FOk n 0 R) {T : ByteArray} (hz0 : 0 < T.size) (hT : T[0] = 98) (hsz : T.size ≤ 1048576) (w : World) :
    Calls Tryd.prog 47 #[.int .i64 n, .string T] w fun e w' => e = .returned (.agg #[.int .i64 n, .int .i64 (sumN (fun r => bitN r 1) R : Int)]) ∧ Below w.heap.size w w' := by
  have hb : T[0].toNat = 98 := by rw [hT]; rfl
  have P := Lib.hid (fun w => (show Calls Tryd.prog 78 #[.int .u8 98] w fun e w' => e = .returned (.int .i64 0) ∧ w = w' from l05Places_any 98 w))
  obtain ⟨W1, hW1⟩ : ∃ W1, w.alloc (.cells #[.int .i64 0, .int .i64 0] 24) = W1 := ⟨_, rfl⟩
  have hb1 : Below w.heap.size w W1 := by rw [← hW1]; exact bnew _ _
  have c0 : W1.cell? ⟨w.heap.size, 0, none⟩ = some (.int .i64 0) := by rw [← hW1]; simp [go_sem]
  have c1 : W1.cell? ⟨w.heap.size, 1, none⟩ = some (.int .i64 0) := by rw [← hW1]; simp [go_sem]
  have f0 : W1.frozen? ⟨w.heap.size, 0, none⟩ = false := by rw [← hW1]; simp [go_sem]
  have f1 : W1.frozen? ⟨w.heap.size, 1, none⟩ = false := by rw [← hW1]; simp [go_sem]
  clear hT
  go_enter Tryd.func47, Tryd.ntmps47
  go_wp2_with (first | (go_at_call 78; refine (P.out _).mono ?_; rintro e w' ⟨rfl, rfl⟩) | (go_at_call 79; refine (l01Projection_any ok.h0 ok.h4 ok.r0 ok.r16 ok.hR 1 (by decide) _).mono ?_; rintro e w2 ⟨rfl, hb2⟩; have d0 := kc hb2 c0; have d1 := kc hb2 c1; have g0 := kf hb2 c0 f0; have g1 := kf hb2 c1 f1; have HB2 := Lib.hid (bthen hb1 hb2)))
  exact bodyPost_ret (v := .agg #[.int .i64 n, .int .i64 (sumN (fun r => bitN r 1) R : Int)]) (by simp [results, Tryd.results47, go_sem, d0, d1]) rfl ⟨rfl, (HB2.out.setCell (p := ⟨w.heap.size, 0, none⟩) (Nat.le_refl _) _).setCell (p := ⟨w.heap.size, 1, none⟩) (Nat.le_refl _) _⟩
set_option maxRecDepth 100000 in
set_option maxHeartbeats 8000000 in
theorem l05Func_leaf99 {n : Int} {R : Nat} (ok : FOk n 0 R) {T : ByteArray} (hz0 : 0 < T.size) (hT : T[0] = 99) (hsz : T.size ≤ 1048576) (w : World) :
    Calls Tryd.prog 47 #[.int .i64 n, .string T] w fun e w' => e = .returned (.agg #[.int .i64 n, .int .i64 (sumN (fun r => bitN r 2) R : Int)]) ∧ Below w.heap.size w w' := by
  have hb : T[0].toNat = 99 := by rw [hT]; rfl
  have P := Lib.hid (fun w => (show Calls Tryd.prog 78 #[.int .u8 99] w fun e w' => e = .returned (.int .i64 0) ∧ w = w' from l05Places_any 99 w))
  obtain ⟨W1, hW1⟩ : ∃ W1, w.alloc (.cells #[.int .i64 0, .int .i64 0] 24) = W1 := ⟨_, rfl⟩
  have hb1 : Below w.heap.size w W1 := by rw [← hW1]; exact bnew _ _
  have c0 : W1.cell? ⟨w.heap.size, 0, none⟩ = some (.int .i64 0) := by rw [← hW1]; simp [go_sem]
  have c1 : W1.cell? ⟨w.heap.size, 1, none⟩ = some (.int .i64 0) := by rw [← hW1]; simp [go_sem]
  have f0 : W1.frozen? ⟨w.heap.size, 0, none⟩ = false := by rw [← hW1]; simp [go_sem]
  have f1 : W1.frozen? ⟨w.heap.size, 1, none⟩ = false := by rw [← hW1]; simp [go_sem]
  clear hT
  go_enter Tryd.func47, Tryd.ntmps47
  go_wp2_with (first | (go_at_call 78; refine (P.out _).mono ?_; rintro e w' ⟨rfl, rfl⟩) | (go_at_call 79; refine (l01Projection_any ok.h0 ok.h4 ok.r0 ok.r16 ok.hR 2 (by decide) _).mono ?_; rintro e w2 ⟨rfl, hb2⟩; have d0 := kc hb2 c0; have d1 := kc hb2 c1; have g0 := kf hb2 c0 f0; have g1 := kf hb2 c1 f1; have HB2 := Lib.hid (bthen hb1 hb2)))
  exact bodyPost_ret (v := .agg #[.int .i64 n, .int .i64 (sumN (fun r => bitN r 2) R : Int)]) (by simp [results, Tryd.results47, go_sem, d0, d1]) rfl ⟨rfl, (HB2.out.setCell (p := ⟨w.heap.size, 0, none⟩) (Nat.le_refl _) _).setCell (p := ⟨w.heap.size, 1, none⟩) (Nat.le_refl _) _⟩
set_option maxRecDepth 100000 in
set_option maxHeartbeats 8000000 in
theorem l05Func_leaf100 {n : Int} {R : Nat} (ok : FOk n 0 R) {T : ByteArray} (hz0 : 0 < T.size) (hT : T[0] = 100) (hsz : T.size ≤ 1048576) (w : World) :
    Calls Tryd.prog 47 #[.int .i64 n, .string T] w fun e w' => e = .returned (.agg #[.int .i64 n, .int .i64 (sumN (fun r => bitN r 3) R : Int)]) ∧ Below w.heap.size w w' := by
  have hb : T[0].toNat = 100 := by rw [hT]; rfl
  have P := Lib.hid (fun w => (show Calls Tryd.prog 78 #[.int .u8 100] w fun e w' => e = .returned (.int .i64 0) ∧ w = w' from l05Places_any 100 w))
  obtain ⟨W1, hW1⟩ : ∃ W1, w.alloc (.cells #[.int .i64 0, .int .i64 0] 24) = W1 := ⟨_, rfl⟩
  have hb1 : Below w.heap.size w W1 := by rw [← hW1]; exact bnew _ _
  have c0 : W1.cell? ⟨w.heap.size, 0, none⟩ = some (.int .i64 0) := by rw [← hW1]; simp [go_sem]
  have c1 : W1.cell? ⟨w.heap.size, 1, none⟩ = some (.int .i64 0) := by rw [← hW1]; simp [go_sem]
  have f0 : W1.frozen? ⟨w.heap.size, 0, none⟩ = false := by rw [← hW1]; simp [go_sem]
  have f1 : W1.frozen? ⟨w.heap.size, 1, none⟩ = false := by rw [← hW1]; simp [go_sem]
  clear hT
  go_enter Tryd.func47, Tryd.ntmps47
  go_wp2_with (first | (go_at_call 78; refine (P.out _).mono ?_; rintro e w' ⟨rfl, rfl⟩) | (go_at_call 79; refine (l01Projection_any ok.h0 ok.h4 ok.r0 ok.r16 ok.hR 3 (by decide) _).mono ?_; rintro e w2 ⟨rfl, hb2⟩; have d0 := kc hb2 c0; have d1 := kc hb2 c1; have g0 := kf hb2 c0 f0; have g1 := kf hb2 c1 f1; have HB2 := Lib.hid (bthen hb1 hb2)))
  exact bodyPost_ret (v := .agg #[.int .i64 n, .int .i64 (sumN (fun r => bitN r 3) R : Int)]) (by simp [results, Tryd.results47, go_sem, d0, d1]) rfl ⟨rfl, (HB2.out.setCell (p := ⟨w.heap.size, 0, none⟩) (Nat.le_refl _) _).setCell (p := ⟨w.heap.size, 1, none⟩) (Nat.le_refl _) _⟩
end Go.Proofs.YtleighihfgabkaaDoor
