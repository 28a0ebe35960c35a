/-
  The texts MO12, MO13, MO14, H0, FFuncOfLevels in one.
-/
import Derived.Test.YtcolaggkeekgoaaMPGreatestFalseRows4
import Derived.Deep.QuietTactic

/- MO12:
  FuncOfRows in both packages. -/
namespace Go.Proofs.Ytcolaggkeekgoaa
open Go.RowKit
set_option linter.unusedVariables false
set_option linter.unusedSimpArgs false

theorem rows_nat {R : Nat} {xs : List Int} (h : rowsB R xs = true) : ∃ l : List Nat, xs = nL l ∧ ∀ o ∈ l, o < R := by
  unfold rowsB at h
  rw [List.all_eq_true] at h
  have hb : ∀ v ∈ xs, 0 ≤ v ∧ v ≤ (R : Int) - 1 := fun v hv => by simpa [inB] using h v hv
  refine ⟨xs.map Int.toNat, ?_, fun o ho => ?_⟩
  · unfold nL
    rw [List.map_map]
    conv => lhs; rw [← List.map_id xs]
    refine List.map_congr_left fun v hv => ?_
    have := (hb v hv).1
    simp; omega
  · obtain ⟨v, hv, rfl⟩ := List.mem_map.1 ho
    have := hb v hv
    omega

theorem abTo_nat {r : Nat} {l : List Nat} {i : Nat} (hi : i < l.length) {b : Bool} (hb : inR r (l[i]?.getD 0) = b) : ((abTo r l (i + 1)).toNat : Int) = if b = true then 1 else ((abTo r l i).toNat : Int) := by
  rw [abTo_succ hi, hb]
  cases b <;> simp

set_option maxRecDepth 100000 in
set_option maxHeartbeats 8000000 in
theorem l07Made_any {n : Int} {R : Nat} (h0 : 0 ≤ n) (h4 : n ≤ 4) (r0 : 0 < R) (r16 : R ≤ 16) (hR : Hid (rowsN n = (R : Int))) {base : Nat} {s : Value} {l : List Nat} (hl : l.length ≤ 1048576) (hm : ∀ o ∈ l, o < 62) (w : World) (ho : Owns w base s (nL l)) :
    Calls Try.prog 63 #[.int .i64 n, s] w fun e w' => e = .returned (.agg #[.int .i64 n, .int .i64 (sumN (madeV l) R : Int)]) ∧ Below w.heap.size w w' := by
  obtain ⟨i0, hi, hz0, hz1, hz2⟩ := info_parts infoI
  have RWS := Lib.hid (fun W => l01Rows_is h0 h4 hR W)
  obtain ⟨a, cap, rfl, HL⟩ := owns_open ho
  have HG := Lib.hid (fun j (hj : j < l.length) => (show l[j]?.getD 0 < 62 by rw [List.getElem?_eq_getElem hj, Option.getD_some]; exact hm _ (List.getElem_mem hj)))
  have HHA := Lib.hid (fun (i j : Nat) (hi : i < 62) (hj : j < 62) (b : Bool) (hb : inR i j = b) W => l03Has_is (x := b) hi hj hb W)
  have HST := Lib.hid (fun r i (hi : i < l.length) b hb => abTo_nat (r := r) hi (b := b) hb)
  have HALL := Lib.hid (fun r => (show ((abTo r l l.length).toNat : Int) = (madeV l r : Int) by rw [abTo_all]; rfl))
  obtain ⟨m, hmm⟩ : ∃ m, l.length = m := ⟨_, rfl⟩
  rw [hmm] at HL HG HST HALL hl ⊢
  clear hmm ho hm
  obtain ⟨W1, hW1, p0, p1, f0, f1, hB, hs1⟩ := ofBox w
  have HS1 := Lib.hid hs1
  have hw1 : w.heap.size < W1.heap.size := by omega
  clear hs1
  go_enter Try.func63, Try.ntmps63
  go_wp2_with fail
  clear hW1
  go_loopw [5, 6] (fun s' i' wr => ∃ k : Nat, k ≤ R ∧ i' = .int .i64 k ∧ Owns wr W1.heap.size s' (natL (madeV l) k) ∧ Below W1.heap.size W1 wr)
    (fun _ i' _ => R - (intOf i').toNat)
  case atStart => exact ⟨0, by omega, rfl, World.ownsRow_lit W1 #[] 0 (Nat.le_refl _) (by decide) rfl, bnew _ _⟩
  case round =>
    obtain ⟨k, hk, rfl, hown, hN⟩ := hrel
    have hsz := hN.size
    by_cases hlt : k < R
    · go_wp2_with (go_at_call 48; refine (RWS.out _).mono ?_; rintro e w' ⟨rfl, rfl⟩)
      go_loop [7, 8] (fun v' i' => ∃ i : Nat, i ≤ m ∧ i' = .int .i64 i ∧ v' = .int .i64 ((abTo k l i).toNat : Int)) (fun _ i' => m - (intOf i').toNat)
      case atStart => exact ⟨0, Nat.zero_le _, rfl, rfl⟩
      case round =>
        obtain ⟨i, hii, rfl, rfl⟩ := hrel
        by_cases hlti : i < m
        · have ho := HG.out i hlti
          have HS := Lib.hid (HST.out k i hlti)
          obtain ⟨g, rfl, hg, hc⟩ := HL.out i hlti
          have hu := kc hN (kc hB hc)
          clear hc
          generalize l[i]?.getD 0 = o at ho HS hu
          cases hx : inR k o
          · have HA := Lib.hid (HHA.out k o (by omega) ho _ hx)
            have HS2 := Lib.hid ((HS.out _ hx).trans (if_neg (by decide)))
            clear hx HS
            go_wp2_with (go_at_call 92; refine (HA.out _).mono ?_; rintro e w' ⟨rfl, rfl⟩)
            go_round
            case rel => exact ⟨i + 1, by omega, by go_num, by rw [HS2.out]⟩
            case measure => simp [intOf]; omega
          · have HA := Lib.hid (HHA.out k o (by omega) ho _ hx)
            have HS2 := Lib.hid ((HS.out _ hx).trans (if_pos rfl))
            clear hx HS
            go_wp2_with (go_at_call 92; refine (HA.out _).mono ?_; rintro e w' ⟨rfl, rfl⟩)
            go_round
            case rel => exact ⟨i + 1, by omega, by go_num, by rw [HS2.out]⟩
            case measure => simp [intOf]; omega
        · obtain rfl : i = m := by omega
          rw [HALL.out k]
          have hlen := natL_len (madeV l) k
          have HS := Lib.hid (natL_succ (madeV l) k)
          have hown5 : World.ownsRow _ _ _ _ _ _ _ := hown
          generalize madeV l k = mk at HS ⊢
          go_wp2_with (at_builtin; refine wpList_append_own _ rfl _ _ 33 rfl W1.heap.size 2 i0 (.int .i64 0) 1 8 Try.underlying33 hi hz0 hz1 hz2 rfl (by decide) _ _ _ rfl (hown5.alloc _) ⟨wr.heap.size, 0, none⟩ 1 1 [.int .i64 (mk : Int)] rfl rfl (cell_one_new _ _ _) (one_cell_int _) (by unfold maxLen; omega) (by omega) (by simp; omega) ?_)
          intro v' w1 hown' hgrow _
          have hN' := (balloc hN (.cells #[.int .i64 (mk : Int)] 2)).grown hgrow (by simp; omega) (fun j e => (World.ownsRow.lt hown5 j e).1)
          clear hgrow hown5 hown hN
          go_wp2
          go_roundw
          case rel => exact ⟨k + 1, by omega, by go_num, by rw [HS.out]; unfold Owns; rw [ints_snoc, List.length_append, natL_len]; exact hown', hN'⟩
          case measure => simp [intOf]; omega
    · obtain rfl : k = R := by omega
      obtain ⟨g, cap2, rfl, hg, hc⟩ := owned_cells r0 hown
      have v0 := kc hN p0
      have v1 := kc hN p1
      have y0 := kf hN p0 f0
      have y1 := kf hN p1 f1
      have hBr := bthen hB hN
      clear hown hN p0 p1 f0 f1
      go_wp2_with (first
        | (go_at_call 48; refine (RWS.out _).mono ?_; rintro e w' ⟨rfl, rfl⟩)
        | (go_at_call 50; refine (l01Of_any h0 h4 r0 r16 hR g cap2 (madeV l) (fun r _ => madeV_le _ _) _ hg hc).mono ?_; rintro e w6 ⟨rfl, hb6⟩; have o0 := kc hb6 v0; have o1 := kc hb6 v1; have i0 := kf hb6 v0 y0; have i1 := kf hb6 v1 y1; have hB6 := bthen hBr hb6; clear v0 v1 y0 y1))
      exact bodyPost_ret (v := .agg #[.int .i64 n, .int .i64 (sumN (madeV l) k : Int)]) (by simp [results, Try.results63, go_sem, o0, o1]) rfl ⟨rfl, (hB6.setCell (p := ⟨w.heap.size, 0, none⟩) (by simp) _).setCell (p := ⟨w.heap.size, 1, none⟩) (by simp) _⟩

/- the program -/
set_option maxHeartbeats 1000000 in
theorem FuncOfRows1_any {base : Nat} {s : Value} {l : List Nat} (hl : l.length ≤ 1048576) (hm : ∀ o ∈ l, o < 62) (r : Nat) (hr : r < 62) (b : Nat) (w : World) (hc : w.cell? ⟨b, 0, none⟩ = some s) (ho : Owns w base s (nL l)) :
    Calls Try.prog 66 #[.int .i64 (r : Int), .pointer (some ⟨b, 0, none⟩)] w fun e w' => e = .returned (.int .i64 (madeV l r : Int)) ∧ Below w.heap.size w w' := by
  have AB := Lib.hid (isAboveOne_any hl hm r hr rfl w ho)
  clear ho
  go_enter Try.func66, Try.ntmps66
  go_wp2_with (first
    | (go_at_call 68; refine AB.out.mono ?_; rintro e w' ⟨rfl, rfl⟩)
    | (go_at_call 67; refine (digitIf_any _ _).mono ?_; rintro e w' ⟨rfl, rfl⟩))
  go_ret
  exact ⟨rfl, Below.refl _ _⟩

/-- The boxes of the program's FuncOfRows: the list, the answer. -/
theorem forBox (s : Value) (w : World) : ∃ W1, (w.alloc (.cells #[s] 33)).alloc (.cells #[.int .i64 0, .int .i64 0] 24) = W1 ∧ W1.cell? ⟨w.heap.size, 0, none⟩ = some s ∧
    (W1.cell? ⟨w.heap.size + 1, 0, none⟩ = some (.int .i64 0) ∧ W1.cell? ⟨w.heap.size + 1, 1, none⟩ = some (.int .i64 0)) ∧ (W1.frozen? ⟨w.heap.size + 1, 0, none⟩ = false ∧ W1.frozen? ⟨w.heap.size + 1, 1, none⟩ = false) ∧ Below w.heap.size w W1 :=
  ⟨_, rfl, by simp [go_sem], ⟨by simp [go_sem], by simp [go_sem]⟩, ⟨by simp [go_sem], by simp [go_sem]⟩, balloc (bnew _ _) _⟩

set_option maxRecDepth 100000 in
set_option maxHeartbeats 2000000 in
theorem implFuncOfRows_no {base : Nat} {s : Value} {xs : List Int} (hl : xs.length ≤ 1048576) {n : Int} (h1 : inB n 0 4 = false) (w : World) (ho : Owns w base s xs) :
    Calls Try.prog 30 #[.int .i64 n, s] w fun e w' => e = .returned (.tuple #[.agg #[.int .i64 0, .int .i64 0], .int .i64 2]) ∧ Below w.heap.size w w' := by
  obtain ⟨a, cap, rfl⟩ := ho.slice
  obtain ⟨W1, hW1, pS, ⟨p0, p1⟩, ⟨f0, f1⟩, hB⟩ := forBox (.slice a xs.length cap) w
  generalize xs.length = m at hl pS hW1 ⊢
  clear ho
  go_enter Try.func30, Try.ntmps30
  go_wp2_with (go_at_call 64; refine (isArity_is h1 _).mono ?_; rintro e w' ⟨rfl, rfl⟩)
  exact bodyPost_ret (v := .tuple #[.agg #[.int .i64 0, .int .i64 0], .int .i64 2]) (by simp [results, Try.results30, go_sem, p0, p1]) rfl ⟨rfl, (hB.setCell (p := ⟨w.heap.size + 1, 0, none⟩) (by simp) _).setCell (p := ⟨w.heap.size + 1, 1, none⟩) (by simp) _⟩

set_option maxRecDepth 100000 in
set_option maxHeartbeats 2000000 in
theorem implFuncOfRows_len {base : Nat} {s : Value} {xs : List Int} (hl : xs.length ≤ 1048576) {n : Int} (h1 : inB n 0 4 = true) (h16 : 16 < xs.length) (w : World) (ho : Owns w base s xs) :
    Calls Try.prog 30 #[.int .i64 n, s] w fun e w' => e = .returned (.tuple #[.agg #[.int .i64 0, .int .i64 0], .int .i64 2]) ∧ Below w.heap.size w w' := by
  obtain ⟨a, cap, rfl⟩ := ho.slice
  obtain ⟨W1, hW1, pS, ⟨p0, p1⟩, ⟨f0, f1⟩, hB⟩ := forBox (.slice a xs.length cap) w
  generalize xs.length = m at hl h16 pS hW1 ⊢
  have hd : decide ((16 : Int) < (m : Int)) = true := by simp; omega
  clear ho
  go_enter Try.func30, Try.ntmps30
  go_wp2_with (go_at_call 64; refine (isArity_is h1 _).mono ?_; rintro e w' ⟨rfl, rfl⟩)
  exact bodyPost_ret (v := .tuple #[.agg #[.int .i64 0, .int .i64 0], .int .i64 2]) (by simp [results, Try.results30, go_sem, p0, p1]) rfl ⟨rfl, (hB.setCell (p := ⟨w.heap.size + 1, 0, none⟩) (by simp) _).setCell (p := ⟨w.heap.size + 1, 1, none⟩) (by simp) _⟩

set_option maxRecDepth 100000 in
set_option maxHeartbeats 2000000 in
theorem implFuncOfRows_row {base : Nat} {s : Value} {xs : List Int} {n : Int} {R : Nat} (h0 : 0 ≤ n) (h4 : n ≤ 4) (h1 : inB n 0 4 = true) (r0 : 0 < R) (r16 : R ≤ 16) (hR : Hid (rowsN n = (R : Int))) (h16 : xs.length ≤ 16) (hr : rowsB R xs = false) (w : World) (ho : Owns w base s xs) :
    Calls Try.prog 30 #[.int .i64 n, s] w fun e w' => e = .returned (.tuple #[.agg #[.int .i64 0, .int .i64 0], .int .i64 2]) ∧ Below w.heap.size w w' := by
  obtain ⟨a, cap, rfl⟩ := ho.slice
  obtain ⟨W1, hW1, pS, ⟨p0, p1⟩, ⟨f0, f1⟩, hB⟩ := forBox (.slice a xs.length cap) w
  have AR := Lib.hid (areRows_any h0 h4 r0 r16 hR (by omega) hr W1 (ho.below hB))
  generalize xs.length = m at h16 pS hW1 AR ⊢
  have hd : decide ((16 : Int) < (m : Int)) = false := by simp; omega
  clear ho
  go_enter Try.func30, Try.ntmps30
  go_wp2_with (first
    | (go_at_call 64; refine (isArity_is h1 _).mono ?_; rintro e w' ⟨rfl, rfl⟩)
    | (go_at_call 65; refine AR.out.mono ?_; rintro e w' ⟨rfl, rfl⟩))
  exact bodyPost_ret (v := .tuple #[.agg #[.int .i64 0, .int .i64 0], .int .i64 2]) (by simp [results, Try.results30, go_sem, p0, p1]) rfl ⟨rfl, (hB.setCell (p := ⟨w.heap.size + 1, 0, none⟩) (by simp) _).setCell (p := ⟨w.heap.size + 1, 1, none⟩) (by simp) _⟩

set_option maxRecDepth 100000 in
set_option maxHeartbeats 4000000 in
theorem implFuncOfRows_yes {base : Nat} {s : Value} {l : List Nat} {n : Int} {R : Nat} (h0 : 0 ≤ n) (h4 : n ≤ 4) (h1 : inB n 0 4 = true) (r0 : 0 < R) (r16 : R ≤ 16) (hR : Hid (rowsN n = (R : Int))) (h16 : l.length ≤ 16) (hr : rowsB R (nL l) = true) (hm : ∀ o ∈ l, o < R) (w : World) (ho : Owns w base s (nL l)) :
    Calls Try.prog 30 #[.int .i64 n, s] w fun e w' => e = .returned (.tuple #[.agg #[.int .i64 n, .int .i64 (sumN (madeV l) R : Int)], .int .i64 0]) ∧ Below w.heap.size w w' := by
  obtain ⟨a, cap, rfl⟩ := ho.slice
  obtain ⟨W1, hW1, pS, ⟨p0, p1⟩, ⟨f0, f1⟩, hB⟩ := forBox (.slice a (nL l).length cap) w
  have HO := Lib.hid ho
  have AR := Lib.hid (areRows_any h0 h4 r0 r16 hR (by rw [nL_length]; omega) hr W1 (ho.below hB))
  have FR0 := funcByRows_any n h0 h4 R r0 r16 hR 66 #[.pointer (some ⟨w.heap.size, 0, none⟩)] (enters_of Try.func66 (by kernel_rfl) rfl)
    (madeV l) (fun r _ => madeV_le _ _) W1 (Lib.hid fun W hW r hr => FuncOfRows1_any (by omega) (fun o ho => by have := hm o ho; omega) r (by omega) w.heap.size W (kc hW pS) ((HO.out.below hB).below hW))
  rw [orBits_sum r0 _ (fun r _ => madeV_le _ _)] at FR0
  have FR := Lib.hid FR0
  rw [nL_length] at pS hW1 AR ⊢
  generalize l.length = m at h16 pS hW1 AR ⊢
  have hd : decide ((16 : Int) < (m : Int)) = false := by simp; omega
  clear ho FR0
  go_enter Try.func30, Try.ntmps30
  go_wp2_with (first
    | (go_at_call 64; refine (isArity_is h1 _).mono ?_; rintro e w' ⟨rfl, rfl⟩)
    | (go_at_call 65; refine AR.out.mono ?_; rintro e w' ⟨rfl, rfl⟩)
    | (go_at_call 53; refine FR.out.mono ?_; rintro e w3 ⟨rfl, hb3⟩; have e0 := kc hb3 p0; have e1 := kc hb3 p1; have k0 := kf hb3 p0 f0; have k1 := kf hb3 p1 f1; have hB3 := bthen hB hb3))
  exact bodyPost_ret (v := .tuple #[.agg #[.int .i64 n, .int .i64 (sumN (madeV l) R : Int)], .int .i64 0]) (by simp [results, Try.results30, go_sem, e0, e1]) rfl ⟨rfl, (hB3.setCell (p := ⟨w.heap.size + 1, 0, none⟩) (by simp) _).setCell (p := ⟨w.heap.size + 1, 1, none⟩) (by simp) _⟩
end Go.Proofs.Ytcolaggkeekgoaa

/- MO13:
  FuncOfRows of the model; both packages. -/
namespace Go.Proofs.Ytcolaggkeekgoaa
open Go.RowKit
set_option linter.unusedVariables false
set_option linter.unusedSimpArgs false

/-- A list of the call's own, opened. -/
theorem owns_openI {W : World} {base : Nat} {s : Value} {xs : List Int} (h : Owns W base s xs) :
    ∃ a cap, s = .slice a xs.length cap ∧ Hid (∀ j, j < xs.length → ∃ g, a = some ⟨g, 0, none⟩ ∧ g < W.heap.size ∧ W.cell? ⟨g, j, none⟩ = some (.int .i64 (xs[j]?.getD 0))) := by
  rcases h.shape with ⟨he, a, cap, rfl⟩ | ⟨hn, g, cap, rfl, hbg, hg, hc, hf⟩
  · subst he
    exact ⟨a, cap, rfl, Lib.hid fun j hj => absurd hj (Nat.not_lt_zero _)⟩
  · exact ⟨some ⟨g, 0, none⟩, cap, rfl, Lib.hid fun j hj => ⟨g, rfl, hg, hc.out j hj⟩⟩
theorem rowsB_all {R : Nat} {xs : List Int} (h : ∀ j, j < xs.length → inB (xs[j]?.getD 0) 0 ((R : Int) - 1) = true) : rowsB R xs = true := by
  unfold rowsB
  rw [List.all_eq_true]
  intro v hv
  obtain ⟨j, hj, rfl⟩ := List.mem_iff_getElem.1 hv
  have := h j hj
  rwa [List.getElem?_eq_getElem hj] at this
theorem rowsB_not {R : Nat} {xs : List Int} {k : Nat} (hk : k < xs.length) (h : inB (xs[k]?.getD 0) 0 ((R : Int) - 1) = false) : rowsB R xs = false := by
  unfold rowsB
  rw [List.all_eq_false]
  exact ⟨xs[k], List.getElem_mem hk, by rw [List.getElem?_eq_getElem hk] at h; simpa using h⟩

set_option maxRecDepth 100000 in
set_option maxHeartbeats 2000000 in
theorem specFuncOfRows_no {base : Nat} {s : Value} {xs : List Int} (hl : xs.length ≤ 1048576) {n : Int} (h1 : inB n 0 4 = false) (w : World) (ho : Owns w base s xs) :
    Calls Try.prog 28 #[.int .i64 n, s] w fun e w' => e = .returned (.tuple #[.agg #[.int .i64 0, .int .i64 0], .int .i64 2]) ∧ Below w.heap.size w w' := by
  obtain ⟨a, cap, rfl⟩ := ho.slice
  obtain ⟨W1, hW1, p0, p1, f0, f1, hB, hs1⟩ := ofBox w
  generalize xs.length = m at hl ⊢
  clear ho hs1
  go_enter Try.func28, Try.ntmps28
  go_wp2_with (go_at_call 47; refine (l01In_is h1 _).mono ?_; rintro e w' ⟨rfl, rfl⟩)
  exact bodyPost_ret (v := .tuple #[.agg #[.int .i64 0, .int .i64 0], .int .i64 2]) (by simp [results, Try.results28, go_sem, p0, p1]) rfl ⟨rfl, (hB.setCell (p := ⟨w.heap.size, 0, none⟩) (by simp) _).setCell (p := ⟨w.heap.size, 1, none⟩) (by simp) _⟩

set_option maxRecDepth 100000 in
set_option maxHeartbeats 2000000 in
theorem specFuncOfRows_len {base : Nat} {s : Value} {xs : List Int} (hl : xs.length ≤ 1048576) {n : Int} (h1 : inB n 0 4 = true) (h16 : 16 < xs.length) (w : World) (ho : Owns w base s xs) :
    Calls Try.prog 28 #[.int .i64 n, s] w fun e w' => e = .returned (.tuple #[.agg #[.int .i64 0, .int .i64 0], .int .i64 2]) ∧ Below w.heap.size w w' := by
  obtain ⟨a, cap, rfl⟩ := ho.slice
  obtain ⟨W1, hW1, p0, p1, f0, f1, hB, hs1⟩ := ofBox w
  generalize xs.length = m at hl h16 ⊢
  have hd : decide ((16 : Int) < (m : Int)) = true := by simp; omega
  clear ho hs1
  go_enter Try.func28, Try.ntmps28
  go_wp2_with (go_at_call 47; refine (l01In_is h1 _).mono ?_; rintro e w' ⟨rfl, rfl⟩)
  exact bodyPost_ret (v := .tuple #[.agg #[.int .i64 0, .int .i64 0], .int .i64 2]) (by simp [results, Try.results28, go_sem, p0, p1]) rfl ⟨rfl, (hB.setCell (p := ⟨w.heap.size, 0, none⟩) (by simp) _).setCell (p := ⟨w.heap.size, 1, none⟩) (by simp) _⟩

set_option maxRecDepth 100000 in
set_option maxHeartbeats 4000000 in
theorem specFuncOfRows_row {base : Nat} {s : Value} {xs : List Int} {n : Int} {R : Nat} (h0 : 0 ≤ n) (h4 : n ≤ 4) (h1 : inB n 0 4 = true) (r0 : 0 < R) (r16 : R ≤ 16) (hR : Hid (rowsN n = (R : Int))) (h16 : xs.length ≤ 16) (hr : rowsB R xs = false) (w : World) (ho : Owns w base s xs) :
    Calls Try.prog 28 #[.int .i64 n, s] w fun e w' => e = .returned (.tuple #[.agg #[.int .i64 0, .int .i64 0], .int .i64 2]) ∧ Below w.heap.size w w' := by
  obtain ⟨a, cap, rfl, HL⟩ := owns_openI ho
  obtain ⟨W1, hW1, p0, p1, f0, f1, hB, hs1⟩ := ofBox w
  have RWS := Lib.hid (fun W => l01Rows_is h0 h4 hR W)
  have HALL := Lib.hid (fun (h : ∀ j, j < xs.length → inB (xs[j]?.getD 0) 0 ((R : Int) - 1) = true) => (show False by have h2 := rowsB_all h; rw [hr] at h2; exact Bool.noConfusion h2))
  clear ho hs1 hr
  generalize xs.length = m at h16 HL HALL ⊢
  have hd : decide ((16 : Int) < (m : Int)) = false := by simp; omega
  go_enter Try.func28, Try.ntmps28
  go_wp2_with (go_at_call 47; refine (l01In_is h1 _).mono ?_; rintro e w' ⟨rfl, rfl⟩)
  clear hW1 hd
  go_loopw [6] (fun i' wr => ∃ i : Nat, i ≤ m ∧ i' = .int .i64 i ∧ Hid (∀ j, j < i → inB (xs[j]?.getD 0) 0 ((R : Int) - 1) = true) ∧ Below W1.heap.size W1 wr) (fun i' _ => m - (intOf i').toNat)
  case atStart => exact ⟨0, Nat.zero_le _, rfl, Lib.hid (fun j hj => by omega), Below.refl _ _⟩
  case round =>
    obtain ⟨i, hi, rfl, HI, hN⟩ := hrel
    by_cases hlt : i < m
    · obtain ⟨g, rfl, hg, hc⟩ := HL.out i hlt
      have hu := kc hN (kc hB hc)
      have q0 := kc hN p0
      have q1 := kc hN p1
      have g0 := kf hN p0 f0
      have g1 := kf hN p1 f1
      have hBr := bthen hB hN
      have hlw : w.heap.size < W1.heap.size := cell_lt p0
      clear hc
      cases hb : inB (xs[i]?.getD 0) 0 ((R : Int) - 1)
      · generalize xs[i]?.getD 0 = v at hu hb
        go_wp2
        go_quiet (first | (go_at_call 47; exact quiet_eq (l01In_is hb _)) | (go_at_call 48; exact quiet_eq (RWS.out _)))
        go_wp2
        exact bodyPost_ret (v := .tuple #[.agg #[.int .i64 0, .int .i64 0], .int .i64 2]) (by simp [results, Try.results28, go_sem, q0, q1]) rfl ⟨rfl, ((below_drewN hBr _).setCell (p := ⟨w.heap.size, 0, none⟩) (by simp) _).setCell (p := ⟨w.heap.size, 1, none⟩) (by simp) _⟩
      · have HI2 : Hid (∀ j, j < i + 1 → inB (xs[j]?.getD 0) 0 ((R : Int) - 1) = true) := Lib.hid (fun j hj => by
          by_cases hji : j = i
          · rw [hji]; exact hb
          · exact HI.out j (by omega))
        generalize xs[i]?.getD 0 = v at hu hb
        go_wp2
        go_quiet (first | (go_at_call 47; exact quiet_eq (l01In_is hb _)) | (go_at_call 48; exact quiet_eq (RWS.out _)))
        go_wp2
        go_roundw
        case rel => exact ⟨i + 1, by omega, by go_num, HI2, below_drewN hN _⟩
        case measure => simp [intOf]; omega
    · obtain rfl : i = m := by omega
      exact (HALL.out HI.out).elim

set_option maxRecDepth 100000 in
set_option maxHeartbeats 4000000 in
theorem specFuncOfRows_yes {base : Nat} {s : Value} {l : List Nat} {n : Int} {R : Nat} (h0 : 0 ≤ n) (h4 : n ≤ 4) (h1 : inB n 0 4 = true) (r0 : 0 < R) (r16 : R ≤ 16) (hR : Hid (rowsN n = (R : Int))) (h16 : l.length ≤ 16) (hr : rowsB R (nL l) = true) (hm : ∀ o ∈ l, o < R) (w : World) (ho : Owns w base s (nL l)) :
    Calls Try.prog 28 #[.int .i64 n, s] w fun e w' => e = .returned (.tuple #[.agg #[.int .i64 n, .int .i64 (sumN (madeV l) R : Int)], .int .i64 0]) ∧ Below w.heap.size w w' := by
  obtain ⟨a, cap, rfl, HL⟩ := owns_openI ho
  obtain ⟨W1, hW1, p0, p1, f0, f1, hB, hs1⟩ := ofBox w
  have RWS := Lib.hid (fun W => l01Rows_is h0 h4 hR W)
  have HIN : Hid (∀ j, j < (nL l).length → inB ((nL l)[j]?.getD 0) 0 ((R : Int) - 1) = true) := Lib.hid fun j hj => by
    cases hb : inB ((nL l)[j]?.getD 0) 0 ((R : Int) - 1)
    · rw [rowsB_not hj hb] at hr; cases hr
    · rfl
  have HM := Lib.hid (fun W (hW : Below W1.heap.size W1 W) => l07Made_any h0 h4 r0 r16 hR (by omega : l.length ≤ 1048576) (fun o ho => by have := hm o ho; omega) W ((ho.below hB).below hW))
  rw [nL_length] at HL HIN HM ⊢
  clear ho hs1 hr hm
  generalize l.length = m at h16 HL HIN HM ⊢
  have hd : decide ((16 : Int) < (m : Int)) = false := by simp; omega
  go_enter Try.func28, Try.ntmps28
  go_wp2_with (go_at_call 47; refine (l01In_is h1 _).mono ?_; rintro e w' ⟨rfl, rfl⟩)
  clear hW1 hd
  go_loopw [6] (fun i' wr => ∃ i : Nat, i ≤ m ∧ i' = .int .i64 i ∧ Below W1.heap.size W1 wr) (fun i' _ => m - (intOf i').toNat)
  case atStart => exact ⟨0, Nat.zero_le _, rfl, Below.refl _ _⟩
  case round =>
    obtain ⟨i, hi, rfl, hN⟩ := hrel
    by_cases hlt : i < m
    · have hb := HIN.out i hlt
      obtain ⟨g, rfl, hg, hc⟩ := HL.out i hlt
      have hu := kc hN (kc hB hc)
      clear hc
      generalize (nL l)[i]?.getD 0 = v at hu hb
      go_wp2
      go_quiet (first | (go_at_call 47; exact quiet_eq (l01In_is hb _)) | (go_at_call 48; exact quiet_eq (RWS.out _)))
      go_wp2
      go_roundw
      case rel => exact ⟨i + 1, by omega, by go_num, below_drewN hN _⟩
      case measure => simp [intOf]; omega
    · obtain rfl : i = m := by omega
      have q0 := kc hN p0
      have q1 := kc hN p1
      have g0 := kf hN p0 f0
      have g1 := kf hN p1 f1
      have hBr := bthen hB hN
      go_wp2_with (go_at_call 63; refine (HM.out _ hN).mono ?_; rintro e w3 ⟨rfl, hb3⟩; have e0 := kc hb3 q0; have e1 := kc hb3 q1; have k0 := kf hb3 q0 g0; have k1 := kf hb3 q1 g1; have hB3 := bthen hBr hb3)
      exact bodyPost_ret (v := .tuple #[.agg #[.int .i64 n, .int .i64 (sumN (madeV l) R : Int)], .int .i64 0]) (by simp [results, Try.results28, go_sem, e0, e1]) rfl ⟨rfl, (hB3.setCell (p := ⟨w.heap.size, 0, none⟩) (by simp) _).setCell (p := ⟨w.heap.size, 1, none⟩) (by simp) _⟩

theorem bothFuncOfRows {xs : List Int} (hl : xs.length ≤ 1048576) (n : Int) : ∃ rn rb rc : Int,
    (∀ (base : Nat) (s : Value) (w : World), Owns w base s xs → Calls Try.prog 28 #[.int .i64 n, s] w fun e w' => e = .returned (.tuple #[.agg #[.int .i64 rn, .int .i64 rb], .int .i64 rc]) ∧ Below w.heap.size w w') ∧
    (∀ (base : Nat) (s : Value) (w : World), Owns w base s xs → Calls Try.prog 30 #[.int .i64 n, s] w fun e w' => e = .returned (.tuple #[.agg #[.int .i64 rn, .int .i64 rb], .int .i64 rc]) ∧ Below w.heap.size w w') := by
  cases h1 : inB n 0 4
  · exact ⟨_, _, _, fun _ _ w ho => specFuncOfRows_no hl h1 w ho, fun _ _ w ho => implFuncOfRows_no hl h1 w ho⟩
  · have hn : 0 ≤ n ∧ n ≤ 4 := by simpa [inB] using h1
    obtain ⟨h0, h4⟩ := hn
    obtain ⟨R, hR, r0, r16, he⟩ := rowsN_eq h0 h4
    have HR := Lib.hid hR
    by_cases h16 : xs.length ≤ 16
    · cases hr : rowsB R xs
      · exact ⟨_, _, _, fun _ _ w ho => specFuncOfRows_row h0 h4 h1 r0 r16 HR h16 hr w ho, fun _ _ w ho => implFuncOfRows_row h0 h4 h1 r0 r16 HR h16 hr w ho⟩
      · obtain ⟨l, rfl, hm⟩ := rows_nat hr
        rw [nL_length] at h16
        exact ⟨_, _, _, fun _ _ w ho => specFuncOfRows_yes h0 h4 h1 r0 r16 HR h16 hr hm w ho, fun _ _ w ho => implFuncOfRows_yes h0 h4 h1 r0 r16 HR h16 hr hm w ho⟩
    · exact ⟨_, _, _, fun _ _ w ho => specFuncOfRows_len hl h1 (by omega) w ho, fun _ _ w ho => implFuncOfRows_len hl h1 (by omega) w ho⟩
end Go.Proofs.Ytcolaggkeekgoaa

/- MO14:
  FuncOfLevels in both packages. -/
namespace Go.Proofs.Ytcolaggkeekgoaa
open Go.RowKit
set_option linter.unusedVariables false
set_option linter.unusedSimpArgs false

/-- The value at a row of the symmetric function with levels. -/
def symV (xs : List Int) (r : Nat) : Nat := dig xs (sizeN r)
theorem size_lt : ∀ n < 5, ∀ r < 2 ^ n, sizeN r ≤ n := by decide +kernel
theorem size_in {n : Int} {R m r : Nat} (h4 : n ≤ 4) (h0 : 0 ≤ n) (he : R = 2 ^ n.toNat) (hm : n = (m : Int) - 1) (hr : r < R) : sizeN r < m := by
  have := size_lt n.toNat (by omega) r (by rw [← he]; exact hr)
  omega

set_option maxRecDepth 100000 in
set_option maxHeartbeats 8000000 in
theorem l07Symmetric_any {n : Int} {R m : Nat} (h0 : 0 ≤ n) (h4 : n ≤ 4) (r0 : 0 < R) (r16 : R ≤ 16) (hR : Hid (rowsN n = (R : Int))) (he : R = 2 ^ n.toNat) {base : Nat} {s : Value} {xs : List Int} (hm : xs.length = m) (hnm : n = (m : Int) - 1) (hd : (xs.all fun v => inB v 0 1) = true) (w : World) (ho : Owns w base s xs) :
    Calls Try.prog 80 #[s] w fun e w' => e = .returned (.agg #[.int .i64 n, .int .i64 (sumN (symV xs) R : Int)]) ∧ Below w.heap.size w w' := by
  obtain ⟨i0, hi, hz0, hz1, hz2⟩ := info_parts infoI
  have RWS := Lib.hid (fun W => l01Rows_is h0 h4 hR W)
  obtain ⟨a, cap, rfl, HL⟩ := owns_openI ho
  have HSZ := Lib.hid (fun r (hr : r < R) => size_in h4 h0 he hnm hr)
  have HDG := Lib.hid (fun j (hj : j < m) => dig_ok hd j (hm ▸ hj))
  have HV1 := Lib.hid (fun r (hr : r < R) => (dig_ok hd (sizeN r) (hm ▸ size_in h4 h0 he hnm hr)).1)
  rw [hm] at HL ⊢
  clear ho hm hd
  subst hnm
  have hm5 : m ≤ 5 := by omega
  have hm1 : 1 ≤ m := by omega
  clear he
  obtain ⟨W1, hW1, p0, p1, f0, f1, hB, hs1⟩ := ofBox w
  have HS1 := Lib.hid hs1
  have hw1 : w.heap.size < W1.heap.size := by omega
  clear hs1
  go_enter Try.func80, Try.ntmps80
  go_wp2_with fail
  clear hW1
  go_loopw [4, 5] (fun s' i' wr => ∃ k : Nat, k ≤ R ∧ i' = .int .i64 k ∧ Owns wr W1.heap.size s' (natL (symV xs) k) ∧ Below W1.heap.size W1 wr)
    (fun _ i' _ => R - (intOf i').toNat)
  case atStart => exact ⟨0, by omega, rfl, World.ownsRow_lit W1 #[] 0 (Nat.le_refl _) (by decide) rfl, bnew _ _⟩
  case round =>
    obtain ⟨k, hk, rfl, hown, hN⟩ := hrel
    have hsz := hN.size
    by_cases hlt : k < R
    · have hq := HSZ.out k hlt
      obtain ⟨g, rfl, hg, hc⟩ := HL.out (sizeN k) hq
      rw [(HDG.out (sizeN k) hq).2] at hc
      have hu := kc hN (kc hB hc)
      clear hc
      have hlen := natL_len (symV xs) k
      have HS := Lib.hid (natL_succ (symV xs) k)
      have HSV : Hid (symV xs k = dig xs (sizeN k)) := Lib.hid rfl
      have hown5 : World.ownsRow _ _ _ _ _ _ _ := hown
      have SZ := Lib.hid (fun W => l03Size_any k (by omega) W)
      generalize dig xs (sizeN k) = d at hu HSV
      generalize sizeN k = q at hq hu SZ
      go_wp2_with (first
        | (go_at_call 48; refine (RWS.out _).mono ?_; rintro e w' ⟨rfl, rfl⟩)
        | (go_at_call 76; refine (SZ.out _).mono ?_; rintro e w' ⟨rfl, rfl⟩)
        | (at_builtin; refine wpList_append_own _ rfl _ _ 33 rfl W1.heap.size 2 i0 (.int .i64 0) 1 8 Try.underlying33 hi hz0 hz1 hz2 rfl (by decide) _ _ _ rfl (hown5.alloc _) ⟨wr.heap.size, 0, none⟩ 1 1 [.int .i64 (d : Int)] rfl rfl (cell_one_new _ _ _) (one_cell_int _) (by unfold maxLen; omega) (by omega) (by simp; omega) ?_))
      intro v' w1 hown' hgrow _
      have hN' := (balloc hN (.cells #[.int .i64 (d : Int)] 2)).grown hgrow (by simp; omega) (fun j e => (World.ownsRow.lt hown5 j e).1)
      clear hgrow hown5 hown hN
      go_wp2
      go_roundw
      case rel => exact ⟨k + 1, by omega, by go_num, by rw [HS.out, HSV.out]; unfold Owns; rw [ints_snoc, List.length_append, natL_len]; exact hown', hN'⟩
      case measure => simp [intOf]; omega
    · obtain rfl : k = R := by omega
      obtain ⟨g, cap2, rfl, hg, hc⟩ := owned_cells r0 hown
      have v0 := kc hN p0
      have v1 := kc hN p1
      have y0 := kf hN p0 f0
      have y1 := kf hN p1 f1
      have hBr := bthen hB hN
      clear hown hN p0 p1 f0 f1
      go_wp2_with (first
        | (go_at_call 48; refine (RWS.out _).mono ?_; rintro e w' ⟨rfl, rfl⟩)
        | (go_at_call 50; refine (l01Of_any h0 h4 r0 r16 hR g cap2 (symV xs) HV1.out _ hg hc).mono ?_; rintro e w6 ⟨rfl, hb6⟩; have o0 := kc hb6 v0; have o1 := kc hb6 v1; have i0 := kf hb6 v0 y0; have i1 := kf hb6 v1 y1; have hB6 := bthen hBr hb6; clear v0 v1 y0 y1))
      exact bodyPost_ret (v := .agg #[.int .i64 ((m : Int) - 1), .int .i64 (sumN (symV xs) k : Int)]) (by simp [results, Try.results80, go_sem, o0, o1]) rfl ⟨rfl, (hB6.setCell (p := ⟨w.heap.size, 0, none⟩) (by simp) _).setCell (p := ⟨w.heap.size, 1, none⟩) (by simp) _⟩

/- the program -/
set_option maxHeartbeats 1000000 in
theorem FuncOfLevels1_any {s : Value} {m : Nat} {g cap : Nat} (r : Nat) (hr : r < 16) (d : Nat) (hq : sizeN r < m) (hm5 : m ≤ 5) (b : Nat) (w : World) (hc : w.cell? ⟨b, 0, none⟩ = some (.slice (some ⟨g, 0, none⟩) m cap)) (hu : w.cell? ⟨g, sizeN r, none⟩ = some (.int .i64 (d : Int))) :
    Calls Try.prog 82 #[.int .i64 (r : Int), .pointer (some ⟨b, 0, none⟩)] w fun e w' => e = .returned (.int .i64 (d : Int)) ∧ Below w.heap.size w w' := by
  have SZ := Lib.hid (fun W => rowSize_any r hr W)
  generalize sizeN r = q at hq hu SZ
  go_enter Try.func82, Try.ntmps82
  go_wp2
  go_quiet (first | (go_at_call 83; exact quiet_eq (SZ.out _)))
  go_wp2
  go_ret
  exact ⟨rfl, below_drewN (Below.refl _ _) _⟩

set_option maxRecDepth 100000 in
set_option maxHeartbeats 2000000 in
theorem implFuncOfLevels_len {base : Nat} {s : Value} {xs : List Int} (hl : xs.length ≤ 1048576) (h1 : inB ((xs.length : Int) - 1) 0 4 = false) (w : World) (ho : Owns w base s xs) :
    Calls Try.prog 42 #[s] w fun e w' => e = .returned (.tuple #[.agg #[.int .i64 0, .int .i64 0], .int .i64 2]) ∧ Below w.heap.size w w' := by
  obtain ⟨a, cap, rfl⟩ := ho.slice
  obtain ⟨W1, hW1, pS, ⟨p0, p1⟩, ⟨f0, f1⟩, hB⟩ := forBox (.slice a xs.length cap) w
  generalize xs.length = m at hl h1 pS hW1 ⊢
  clear ho
  go_enter Try.func42, Try.ntmps42
  go_wp2_with (go_at_call 64; refine (isArity_is h1 _).mono ?_; rintro e w' ⟨rfl, rfl⟩)
  exact bodyPost_ret (v := .tuple #[.agg #[.int .i64 0, .int .i64 0], .int .i64 2]) (by simp [results, Try.results42, go_sem, p0, p1]) rfl ⟨rfl, (hB.setCell (p := ⟨w.heap.size + 1, 0, none⟩) (by simp) _).setCell (p := ⟨w.heap.size + 1, 1, none⟩) (by simp) _⟩

set_option maxRecDepth 100000 in
set_option maxHeartbeats 2000000 in
theorem implFuncOfLevels_dig {base : Nat} {s : Value} {xs : List Int} (hl : xs.length ≤ 1048576) (h1 : inB ((xs.length : Int) - 1) 0 4 = true) (hd : (xs.all fun v => inB v 0 1) = false) (w : World) (ho : Owns w base s xs) :
    Calls Try.prog 42 #[s] w fun e w' => e = .returned (.tuple #[.agg #[.int .i64 0, .int .i64 0], .int .i64 2]) ∧ Below w.heap.size w w' := by
  obtain ⟨a, cap, rfl⟩ := ho.slice
  obtain ⟨W1, hW1, pS, ⟨p0, p1⟩, ⟨f0, f1⟩, hB⟩ := forBox (.slice a xs.length cap) w
  have AD0 := areDigits_any hl W1 (ho.below hB)
  rw [hd] at AD0
  have AD := Lib.hid AD0
  generalize xs.length = m at hl h1 pS hW1 AD ⊢
  clear ho AD0 hd
  go_enter Try.func42, Try.ntmps42
  go_wp2_with (first
    | (go_at_call 64; refine (isArity_is h1 _).mono ?_; rintro e w' ⟨rfl, rfl⟩)
    | (go_at_call 81; refine AD.out.mono ?_; rintro e w' ⟨rfl, rfl⟩))
  exact bodyPost_ret (v := .tuple #[.agg #[.int .i64 0, .int .i64 0], .int .i64 2]) (by simp [results, Try.results42, go_sem, p0, p1]) rfl ⟨rfl, (hB.setCell (p := ⟨w.heap.size + 1, 0, none⟩) (by simp) _).setCell (p := ⟨w.heap.size + 1, 1, none⟩) (by simp) _⟩

set_option maxRecDepth 100000 in
set_option maxHeartbeats 4000000 in
theorem implFuncOfLevels_yes {base : Nat} {s : Value} {xs : List Int} {n : Int} {R m : Nat} (h0 : 0 ≤ n) (h4 : n ≤ 4) (h1 : inB n 0 4 = true) (r0 : 0 < R) (r16 : R ≤ 16) (hR : Hid (rowsN n = (R : Int))) (he : R = 2 ^ n.toNat) (hm : xs.length = m) (hnm : n = (m : Int) - 1) (hd : (xs.all fun v => inB v 0 1) = true) (w : World) (ho : Owns w base s xs) :
    Calls Try.prog 42 #[s] w fun e w' => e = .returned (.tuple #[.agg #[.int .i64 n, .int .i64 (sumN (symV xs) R : Int)], .int .i64 0]) ∧ Below w.heap.size w w' := by
  rcases ho.shape with ⟨he0, _⟩ | ⟨hn, g, cap, rfl, hbg, hg, hcc, hf⟩
  · rw [he0] at hm; simp at hm; omega
  have HSZ := Lib.hid (fun r (hr : r < R) => size_in h4 h0 he hnm hr)
  have HDG := Lib.hid (fun j (hj : j < m) => dig_ok hd j (hm ▸ hj))
  have HCC : Hid (∀ j, j < m → w.cell? ⟨g, j, none⟩ = some (.int .i64 (dig xs j : Int))) := Lib.hid fun j hj => by rw [hcc.out j (hm ▸ hj), (HDG.out j hj).2]
  obtain ⟨W1, hW1, pS, ⟨p0, p1⟩, ⟨f0, f1⟩, hB⟩ := forBox (.slice (some ⟨g, 0, none⟩) xs.length cap) w
  have AD0 := areDigits_any (by omega) W1 (ho.below hB)
  rw [hd] at AD0
  have AD := Lib.hid AD0
  rw [hm] at pS hW1 AD ⊢
  have FR0 := funcByRows_any n h0 h4 R r0 r16 hR 82 #[.pointer (some ⟨w.heap.size, 0, none⟩)] (enters_of Try.func82 (by kernel_rfl) rfl)
    (symV xs) (fun r hr => (HDG.out _ (HSZ.out r hr)).1) W1 (Lib.hid fun W hW r hr => FuncOfLevels1_any (s := .bool true) r (by omega) (dig xs (sizeN r)) (HSZ.out r hr) (by omega) w.heap.size W (kc hW pS) (kc hW (kc hB (HCC.out _ (HSZ.out r hr)))))
  rw [orBits_sum r0 (symV xs) (fun r hr => (HDG.out _ (HSZ.out r hr)).1)] at FR0
  have FR := Lib.hid FR0
  have hm5 : m ≤ 5 := by omega
  have hm1 : 1 ≤ m := by omega
  clear ho FR0 AD0 hd hm hcc hf hn he HSZ HDG HCC
  subst hnm
  have IA := Lib.hid (fun W => isArity_is h1 W)
  have FR2 := FR
  generalize sumN (symV xs) R = S at FR2 ⊢
  go_enter Try.func42, Try.ntmps42
  go_wp2_with (first
    | (go_at_call 64; refine (IA.out _).mono ?_; rintro e w' ⟨rfl, rfl⟩)
    | (go_at_call 81; refine AD.out.mono ?_; rintro e w' ⟨rfl, rfl⟩)
    | (go_at_call 53; refine FR2.out.mono ?_; rintro e w3 ⟨rfl, hb3⟩; have e0 := kc hb3 p0; have e1 := kc hb3 p1; have k0 := kf hb3 p0 f0; have k1 := kf hb3 p1 f1; have hB3 := bthen hB hb3))
  exact bodyPost_ret (v := .tuple #[.agg #[.int .i64 ((m : Int) - 1), .int .i64 (S : Int)], .int .i64 0]) (by simp [results, Try.results42, go_sem, e0, e1]) rfl ⟨rfl, (hB3.setCell (p := ⟨w.heap.size + 1, 0, none⟩) (by simp) _).setCell (p := ⟨w.heap.size + 1, 1, none⟩) (by simp) _⟩

/- the model -/
set_option maxRecDepth 100000 in
set_option maxHeartbeats 2000000 in
theorem specFuncOfLevels_len {base : Nat} {s : Value} {xs : List Int} (hl : xs.length ≤ 1048576) (h1 : inB (xs.length : Int) 1 5 = false) (w : World) (ho : Owns w base s xs) :
    Calls Try.prog 41 #[s] w fun e w' => e = .returned (.tuple #[.agg #[.int .i64 0, .int .i64 0], .int .i64 2]) ∧ Below w.heap.size w w' := by
  obtain ⟨a, cap, rfl⟩ := ho.slice
  obtain ⟨W1, hW1, p0, p1, f0, f1, hB, hs1⟩ := ofBox w
  generalize xs.length = m at hl h1 ⊢
  clear ho hs1
  go_enter Try.func41, Try.ntmps41
  go_wp2_with (go_at_call 47; refine (l01In_is h1 _).mono ?_; rintro e w' ⟨rfl, rfl⟩)
  exact bodyPost_ret (v := .tuple #[.agg #[.int .i64 0, .int .i64 0], .int .i64 2]) (by simp [results, Try.results41, go_sem, p0, p1]) rfl ⟨rfl, (hB.setCell (p := ⟨w.heap.size, 0, none⟩) (by simp) _).setCell (p := ⟨w.heap.size, 1, none⟩) (by simp) _⟩

set_option maxRecDepth 100000 in
set_option maxHeartbeats 2000000 in
theorem specFuncOfLevels_dig {base : Nat} {s : Value} {xs : List Int} (hl : xs.length ≤ 1048576) (h1 : inB (xs.length : Int) 1 5 = true) (hd : (xs.all fun v => inB v 0 1) = false) (w : World) (ho : Owns w base s xs) :
    Calls Try.prog 41 #[s] w fun e w' => e = .returned (.tuple #[.agg #[.int .i64 0, .int .i64 0], .int .i64 2]) ∧ Below w.heap.size w w' := by
  obtain ⟨a, cap, rfl⟩ := ho.slice
  obtain ⟨W1, hW1, p0, p1, f0, f1, hB, hs1⟩ := ofBox w
  have AD0 := l01Bits_any hl W1 (ho.below hB)
  rw [hd] at AD0
  have AD := Lib.hid AD0
  generalize xs.length = m at hl h1 AD ⊢
  clear ho hs1 AD0 hd
  go_enter Try.func41, Try.ntmps41
  go_wp2_with (first
    | (go_at_call 47; refine (l01In_is h1 _).mono ?_; rintro e w' ⟨rfl, rfl⟩)
    | (go_at_call 79; refine AD.out.mono ?_; rintro e w' ⟨rfl, rfl⟩))
  exact bodyPost_ret (v := .tuple #[.agg #[.int .i64 0, .int .i64 0], .int .i64 2]) (by simp [results, Try.results41, go_sem, p0, p1]) rfl ⟨rfl, (hB.setCell (p := ⟨w.heap.size, 0, none⟩) (by simp) _).setCell (p := ⟨w.heap.size, 1, none⟩) (by simp) _⟩

set_option maxRecDepth 100000 in
set_option maxHeartbeats 4000000 in
theorem specFuncOfLevels_yes {base : Nat} {s : Value} {xs : List Int} {n : Int} {R m : Nat} (h0 : 0 ≤ n) (h4 : n ≤ 4) (h1 : inB (xs.length : Int) 1 5 = true) (r0 : 0 < R) (r16 : R ≤ 16) (hR : Hid (rowsN n = (R : Int))) (he : R = 2 ^ n.toNat) (hm : xs.length = m) (hnm : n = (m : Int) - 1) (hd : (xs.all fun v => inB v 0 1) = true) (w : World) (ho : Owns w base s xs) :
    Calls Try.prog 41 #[s] w fun e w' => e = .returned (.tuple #[.agg #[.int .i64 n, .int .i64 (sumN (symV xs) R : Int)], .int .i64 0]) ∧ Below w.heap.size w w' := by
  obtain ⟨a, cap, rfl⟩ := ho.slice
  obtain ⟨W1, hW1, p0, p1, f0, f1, hB, hs1⟩ := ofBox w
  have AD0 := l01Bits_any (by omega) W1 (ho.below hB)
  rw [hd] at AD0
  have AD := Lib.hid AD0
  have SY := Lib.hid (l07Symmetric_any h0 h4 r0 r16 hR he hm hnm hd W1 (ho.below hB))
  rw [hm] at h1 AD SY ⊢
  have hm5 : m ≤ 5 := by omega
  clear ho hs1 AD0 hd hnm hm
  generalize sumN (symV xs) R = S at SY ⊢
  go_enter Try.func41, Try.ntmps41
  go_wp2_with (first
    | (go_at_call 47; refine (l01In_is h1 _).mono ?_; rintro e w' ⟨rfl, rfl⟩)
    | (go_at_call 79; refine AD.out.mono ?_; rintro e w' ⟨rfl, rfl⟩)
    | (go_at_call 80; refine SY.out.mono ?_; rintro e w3 ⟨rfl, hb3⟩; have e0 := kc hb3 p0; have e1 := kc hb3 p1; have k0 := kf hb3 p0 f0; have k1 := kf hb3 p1 f1; have hB3 := bthen hB hb3))
  exact bodyPost_ret (v := .tuple #[.agg #[.int .i64 n, .int .i64 (S : Int)], .int .i64 0]) (by simp [results, Try.results41, go_sem, e0, e1]) rfl ⟨rfl, (hB3.setCell (p := ⟨w.heap.size, 0, none⟩) (by simp) _).setCell (p := ⟨w.heap.size, 1, none⟩) (by simp) _⟩

theorem bothFuncOfLevels {xs : List Int} (hl : xs.length ≤ 1048576) : ∃ rn rb rc : Int,
    (∀ (base : Nat) (s : Value) (w : World), Owns w base s xs → Calls Try.prog 41 #[s] w fun e w' => e = .returned (.tuple #[.agg #[.int .i64 rn, .int .i64 rb], .int .i64 rc]) ∧ Below w.heap.size w w') ∧
    (∀ (base : Nat) (s : Value) (w : World), Owns w base s xs → Calls Try.prog 42 #[s] w fun e w' => e = .returned (.tuple #[.agg #[.int .i64 rn, .int .i64 rb], .int .i64 rc]) ∧ Below w.heap.size w w') := by
  have h15 : inB ((xs.length : Int) - 1) 0 4 = inB (xs.length : Int) 1 5 := by
    unfold inB
    rw [Bool.eq_iff_iff, decide_eq_true_iff, decide_eq_true_iff]
    omega
  cases h1 : inB (xs.length : Int) 1 5
  · rw [h1] at h15
    exact ⟨_, _, _, fun _ _ w ho => specFuncOfLevels_len hl h1 w ho, fun _ _ w ho => implFuncOfLevels_len hl h15 w ho⟩
  · rw [h1] at h15
    cases hd : (xs.all fun v => inB v 0 1)
    · exact ⟨_, _, _, fun _ _ w ho => specFuncOfLevels_dig hl h1 hd w ho, fun _ _ w ho => implFuncOfLevels_dig hl h15 hd w ho⟩
    · have hn : 0 ≤ (xs.length : Int) - 1 ∧ (xs.length : Int) - 1 ≤ 4 := by simpa [inB] using h15
      obtain ⟨h0, h4⟩ := hn
      obtain ⟨R, hR, r0, r16, he⟩ := rowsN_eq h0 h4
      have HR := Lib.hid hR
      exact ⟨_, _, _, fun _ _ w ho => specFuncOfLevels_yes h0 h4 h1 r0 r16 HR he rfl rfl hd w ho, fun _ _ w ho => implFuncOfLevels_yes h0 h4 h15 r0 r16 HR he rfl rfl hd w ho⟩
end Go.Proofs.Ytcolaggkeekgoaa

/- H0:
  The box of an answer that is a function. -/
namespace Go.Proofs.Ytcolaggkeekgoaa
open Go.RowKit
theorem ansBox (n b : Int) (w : World) : ∃ W1, w.alloc (.cells #[.int .i64 n, .int .i64 b] 24) = W1 ∧ W1.cell? ⟨w.heap.size, 0, none⟩ = some (.int .i64 n) ∧ W1.cell? ⟨w.heap.size, 1, none⟩ = some (.int .i64 b) ∧ Below w.heap.size w W1 :=
  ⟨_, rfl, by simp [go_sem], by simp [go_sem], bnew _ _⟩
end Go.Proofs.Ytcolaggkeekgoaa

/- FFuncOfLevels:
  The walk of the law on FuncOfLevels: both packages answer alike, and the list that came in is as it was. -/
namespace Go.Proofs.Ytcolaggkeekgoaa
open Go.RowKit
set_option linter.unusedVariables false

set_option maxRecDepth 100000 in
set_option maxHeartbeats 4000000 in
theorem fnExactFuncOfLevels_walk (a0 : Option Addr) (len0 cap0 : Nat) (z0 : List Int) (w : World) (hr0 : IsRow .i64 w a0 len0 cap0 z0) :
    Calls Try.prog 13 #[.slice a0 len0 cap0] w fun e w' => e = .returned (.bool true) ∧ Below w.heap.size w w' := by
  by_cases hle : len0 ≤ 1048576
  · have hxl : (z0.take len0).length ≤ 1048576 := by rw [List.length_take]; omega
    obtain ⟨rn, rb, rc, c1, c2⟩ := bothFuncOfLevels hxl 
    have C1 := Lib.hid c1
    have C2 := Lib.hid c2
    have HR := Lib.hid hr0
    have HX := Lib.hid hxl
    clear c1 c2 hr0 hxl
    obtain ⟨W1, hW1⟩ : ∃ W1, w = W1 := ⟨_, rfl⟩
    have hN : Below w.heap.size w W1 := by rw [← hW1]; exact Below.refl _ _
    go_enter Try.func13, Try.ntmps13
    go_wp2_with fail
    clear hW1
    go_wp2_with fail
    have hs_O1 := hN.size
    go_wp2_with fail
    refine (toInt64S_any HR.out hle _ hN).mono ?_
    rintro e w2 ⟨s1, rfl, o, hb⟩
    have O1 := Lib.hid o
    clear o
    replace hN := bthen hN hb
    clear hb
    go_wp2_with fail
    refine (C1.out _ _ _ O1.out).mono ?_
    rintro e w3 ⟨rfl, hb⟩
    replace hN := bthen hN hb
    replace O1 := Lib.hid (O1.out.below hb)
    clear hb
    obtain ⟨W103, hW, r3_0, r3_1, hb⟩ := ansBox rn rb w3
    replace hN := bthen hN hb
    replace O1 := Lib.hid (O1.out.below hb)
    clear hb
    clear O1
    go_wp2_with fail
    clear hW
    go_wp2_with fail
    have hs_O2 := hN.size
    go_wp2_with fail
    refine (toInt64S_any HR.out hle _ hN).mono ?_
    rintro e w5 ⟨s2, rfl, o, hb⟩
    have O2 := Lib.hid o
    clear o
    replace hN := bthen hN hb
    have q1_0 := kc hb r3_0; have q1_1 := kc hb r3_1
    clear hb r3_0 r3_1
    go_wp2_with fail
    refine (C2.out _ _ _ O2.out).mono ?_
    rintro e w6 ⟨rfl, hb⟩
    replace hN := bthen hN hb
    have q2_0 := kc hb q1_0; have q2_1 := kc hb q1_1
    replace O2 := Lib.hid (O2.out.below hb)
    clear hb q1_0 q1_1
    obtain ⟨W106, hW, r6_0, r6_1, hb⟩ := ansBox rn rb w6
    replace hN := bthen hN hb
    have q3_0 := kc hb q2_0; have q3_1 := kc hb q2_1
    replace O2 := Lib.hid (O2.out.below hb)
    clear hb q2_0 q2_1
    go_wp2_with fail
    clear hW
    go_wp2_with fail
    refine (eqFunc_same _ _ _).mono ?_
    rintro e w8 ⟨rfl, hb⟩
    replace hN := bthen hN hb
    have q4_0 := kc hb q3_0; have q4_1 := kc hb q3_1
    have q5_0 := kc hb r6_0; have q5_1 := kc hb r6_1
    replace O2 := Lib.hid (O2.out.below hb)
    clear hb q3_0 q3_1 r6_0 r6_1
    go_wp2_with fail
    have lt_O2_O3 := Lib.hid O2.out.lt
    have hs_O3 := hN.size
    go_wp2_with fail
    refine (toInt64S_any HR.out hle _ hN).mono ?_
    rintro e w9 ⟨s3, rfl, o, hb⟩
    have O3 := Lib.hid o
    clear o
    replace hN := bthen hN hb
    have q6_0 := kc hb q4_0; have q6_1 := kc hb q4_1
    have q7_0 := kc hb q5_0; have q7_1 := kc hb q5_1
    replace O2 := Lib.hid (O2.out.below hb)
    clear hb q4_0 q4_1 q5_0 q5_1
    go_wp2_with fail
    refine (eqInt64S_same (by have := HX.out; omega) _ O2.out O3.out).mono ?_
    rintro e w10 ⟨rfl, hb⟩
    replace hN := bthen hN hb
    have q8_0 := kc hb q6_0; have q8_1 := kc hb q6_1
    have q9_0 := kc hb q7_0; have q9_1 := kc hb q7_1
    replace O2 := Lib.hid (O2.out.below hb)
    replace O3 := Lib.hid (O3.out.below hb)
    clear hb q6_0 q6_1 q7_0 q7_1
    clear O3
    go_wp2
    go_ret
    exact ⟨rfl, hN⟩
  · clear hr0
    obtain ⟨W1, hW1⟩ : ∃ W1, w = W1 := ⟨_, rfl⟩
    have hN : Below w.heap.size w W1 := by rw [← hW1]; exact Below.refl _ _
    go_enter Try.func13, Try.ntmps13
    go_wp2
    go_ret
    exact ⟨rfl, hN⟩
end Go.Proofs.Ytcolaggkeekgoaa
