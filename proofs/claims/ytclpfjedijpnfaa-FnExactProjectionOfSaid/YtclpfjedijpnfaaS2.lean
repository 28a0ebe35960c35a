/-
  Lists of values that are appended to, and the function that they make: projections and duals of the model.
-/
import Derived.Test.YtclpfjedijpnfaaS1
import Derived.Maps.AppendAt
namespace Go.Proofs.Ytclpfjedijpnfaa
open Go.RowKit

theorem infoI : (Try.prog.info? 2).map (fun i => (i.zero, i.size, i.bytes)) = some (some (.int .i64 0), 1, 8) := by kernel_rfl

def valsN (v : Nat → Nat) (k : Nat) : List Value := (List.range k).map fun j => .int .i64 (v j : Int)
theorem valsN_succ (v : Nat → Nat) (k : Nat) : valsN v (k + 1) = valsN v k ++ [.int .i64 (v k : Int)] := by simp [valsN, List.range_succ]
theorem valsN_length (v : Nat → Nat) (k : Nat) : (valsN v k).length = k := by simp [valsN]
theorem valsN_get (v : Nat → Nat) (k j : Nat) (h : j < k) : (valsN v k)[j]? = some (.int .i64 (v j : Int)) := by simp [valsN, h]

theorem owns_below {W W' : World} {base : Nat} {e : TypeId} {size : Nat} {v : Value} {n : Nat} {xs : List Value} (h : W.ownsRow base e size v n xs) (hb : Below W.heap.size W W') : W'.ownsRow base e size v n xs := by
  obtain ⟨h1, h2 | ⟨g, cap, cur, e1, e2, e3, r⟩⟩ := h
  · exact ⟨h1, .inl h2⟩
  · exact ⟨h1, .inr ⟨g, cap, cur, e1, e2, (hb.block g (Array.getElem?_eq_some_iff.1 e3).1).trans e3, r⟩⟩

theorem one_cell_int (x : Int) : ∀ u ∈ [Value.int .i64 x], u.oneCell' = true := by intro u hu; simp at hu; subst hu; rfl

/-- What l01Of wants of a list of values that was appended to. -/
theorem owned_slice {W : World} {base R : Nat} {v : Nat → Nat} {s : Value} (r0 : 0 < R) (h : W.ownsRow base 2 1 s R (valsN v R)) :
    ∃ g cap, s = .slice (some ⟨g, 0, none⟩) R cap ∧ g < W.heap.size ∧ Hid (∀ j, j < R → W.cell? ⟨g, j, none⟩ = some (.int .i64 (v j : Int))) := by
  obtain ⟨k, rfl⟩ : ∃ k, R = k + 1 := ⟨R - 1, by omega⟩
  obtain ⟨g, cap, rfl⟩ := ownsRow_succ h
  exact ⟨g, cap, rfl, (h.lt g rfl).2, fun j hj => by rw [h.cellAt j (by omega)]; exact valsN_get v _ j hj⟩

set_option maxRecDepth 100000 in
set_option maxHeartbeats 2000000 in
theorem l01Projection_any {n : Int} {R : Nat} (h0 : 0 ≤ n) (h4 : n ≤ 4) (r0 : 0 < R) (r16 : R ≤ 16) (hR : Hid (rowsN n = (R : Int))) (i : Nat) (hi16 : i < 16) (w : World) :
    Calls Try.prog 144 #[.int .i64 n, .int .i64 (i : Int)] w fun e w' => e = .returned (.agg #[.int .i64 n, .int .i64 (sumN (fun r => bitN r i) R : Int)]) ∧ Below w.heap.size w w' := by
  obtain ⟨i0, hi, hz0, hz1, hz2⟩ := info_parts infoI
  go_enter Try.func144, Try.ntmps144
  go_wp2
  obtain ⟨W1, hW1⟩ : ∃ W1, w.alloc (.cells #[.int .i64 0, .int .i64 0] 25) = W1 := ⟨_, rfl⟩
  have hs1 : W1.heap.size = w.heap.size + 1 := by rw [← hW1]; simp
  have c00 : W1.cell? ⟨w.heap.size, 0, none⟩ = some (.int .i64 0) := by rw [← hW1]; simp [go_sem]
  have c01 : W1.cell? ⟨w.heap.size, 1, none⟩ = some (.int .i64 0) := by rw [← hW1]; simp [go_sem]
  have f00 : W1.frozen? ⟨w.heap.size, 0, none⟩ = false := by rw [← hW1]; simp [go_sem]
  have f01 : W1.frozen? ⟨w.heap.size, 1, none⟩ = false := by rw [← hW1]; simp [go_sem]
  have hB1 : Below w.heap.size w W1 := by rw [← hW1]; exact bnew _ _
  rw [hW1]
  clear hW1
  go_loopw [5, 6] (fun s i' wr => ∃ k : Nat, k ≤ R ∧ i' = .int .i64 k ∧ wr.ownsRow W1.heap.size 2 1 s k (valsN (fun r => bitN r i) k) ∧ Below W1.heap.size W1 wr)
    (fun _ i' _ => R - (intOf i').toNat)
  case atStart => exact ⟨0, Nat.zero_le _, rfl, by rw [← hs1]; exact World.ownsRow_lit W1 #[] 0 (Nat.le_refl _) (by decide) rfl, bnew _ _⟩
  case round =>
    obtain ⟨k, hk, rfl, hown, hN⟩ := hrel
    have hsz := hN.size
    have hE := Lib.hid hs1
    clear hs1
    by_cases hlt : k < R
    · have E := digit_eq k i (by omega)
      go_wp2_with (first
        | (go_at_call 139; refine (l01Rows_is h0 h4 hR _).mono ?_; rintro e w' ⟨rfl, rfl⟩)
        | (at_builtin; refine wpList_append_own _ rfl _ _ 36 rfl W1.heap.size 2 i0 (.int .i64 0) 1 8 Try.underlying36 hi hz0 hz1 hz2 rfl (by decide) _ _ _ rfl (hown.alloc _) ⟨wr.heap.size, 0, none⟩ 1 1 [.int .i64 (bitN k i : Int)] rfl rfl (cell_one_new _ _ _) (one_cell_int _) (by unfold maxLen; omega) (by omega) (by simp; omega) ?_))
      intro v' w1 hown' hgrow _
      have hN' := (balloc hN (.cells #[.int .i64 (bitN k i : Int)] 2)).grown hgrow (by simp; omega) (fun j e => (hown.lt j e).1)
      clear hgrow hown hN E
      go_wp2
      go_roundw
      case rel => exact ⟨k + 1, by omega, by go_num, by rw [valsN_succ]; exact hown', hN'⟩
      case measure => simp [intOf]; omega
    · obtain rfl : k = R := by omega
      obtain ⟨g, cap, rfl, hg, hc⟩ := owned_slice r0 hown
      have d00 := (hN.cell (p := ⟨w.heap.size, 0, none⟩) (by rw [hE.out]; simp)).trans c00
      have d01 := (hN.cell (p := ⟨w.heap.size, 1, none⟩) (by rw [hE.out]; simp)).trans c01
      have g00 := (hN.frozen (p := ⟨w.heap.size, 0, none⟩) (by rw [hE.out]; simp)).trans f00
      have g01 := (hN.frozen (p := ⟨w.heap.size, 1, none⟩) (by rw [hE.out]; simp)).trans f01
      have hB2 := bthen hB1 hN
      clear hown hN c00 c01 f00 f01 hB1
      go_wp2_with (first
        | (go_at_call 139; refine (l01Rows_is h0 h4 hR _).mono ?_; rintro e w' ⟨rfl, rfl⟩)
        | (go_at_call 142; refine (l01Of_any h0 h4 r0 r16 hR g cap (fun r => bitN r i) (fun r _ => bitN_le r i) _ hg hc).mono ?_; rintro e w3 ⟨rfl, hb3⟩; have e00 := kc hb3 d00; have e01 := kc hb3 d01; have k00 := kf hb3 d00 g00; have k01 := kf hb3 d01 g01; have hB3 := bthen hB2 hb3))
      exact bodyPost_ret (v := .agg #[.int .i64 n, .int .i64 (sumN (fun r => bitN r i) k : Int)]) (by simp [results, Try.results144, go_sem, e00, e01]) rfl ⟨rfl, (hB3.setCell (p := ⟨w.heap.size, 0, none⟩) (by simp) _).setCell (p := ⟨w.heap.size, 1, none⟩) (by simp) _⟩
end Go.Proofs.Ytclpfjedijpnfaa
