/-
  Lists of texts of one's own in the laws: marks read again, lists held against each other.
-/
import Derived.Test.YtleighihfgabkaaDoorLS1
namespace Go.Proofs.YtleighihfgabkaaDoor
open Go.RowKit
set_option linter.unusedVariables false
set_option linter.unusedSimpArgs false
theorem OwnsS.cellsS {W : World} {base : Nat} {s : Value} {xs : List ByteArray} (h : OwnsS W base s xs) : ∃ a cap, s = .slice a xs.length cap ∧ (0 < xs.length → ∃ g, a = some ⟨g, 0, none⟩ ∧ g < W.heap.size ∧ base ≤ g ∧ ∀ j (hj : j < xs.length), W.cell? ⟨g, j, none⟩ = some (.string xs[j])) := by
  rcases h.2 with ⟨e, h0⟩ | ⟨g, cap, cur, rfl, hb, hg, _⟩
  · exact ⟨none, 0, by rw [e, h0], fun hp => by omega⟩
  · refine ⟨_, cap, rfl, fun hp => ⟨g, rfl, (Array.getElem?_eq_some_iff.1 hg).1, hb, fun j hj => ?_⟩⟩
    have := World.ownsRow.cellAt h j (by omega)
    rw [this]
    simp [strs, hj]
set_option maxRecDepth 100000 in
set_option maxHeartbeats 8000000 in
theorem heldS_any {base : Nat} {s : Value} {n : Nat} (hl : n ≤ 8) (w : World) (h : OwnsS w base s (mkS n)) :
    Calls Tryd.prog 37 #[s, .int .i64 1] w fun e w' => e = .returned (.int .i64 ((1 + n : Nat) : Int)) ∧ Below w.heap.size w w' := by
  obtain ⟨a, cap, rfl, hc⟩ := h.cellsS
  have hc2 : 0 < n → ∃ g, a = some ⟨g, 0, none⟩ ∧ ∀ j, j < n → w.cell? ⟨g, j, none⟩ = some (.string (mkT (1 + j))) := fun hp => by
    obtain ⟨g, e, _, _, hcc⟩ := hc (by rw [mkS_len]; exact hp)
    exact ⟨g, e, fun j hj => by rw [hcc j (by rw [mkS_len]; exact hj)]; simp [mkS]⟩
  have HC := Lib.hid hc2
  have e0 := mkS_len n
  clear hc h hc2
  rw [e0]
  clear e0
  go_enter Tryd.func37, Tryd.ntmps37
  go_wp2
  go_loopw [1, 5] (fun q i' wr => ∃ i : Nat, i ≤ n ∧ i' = .int .i64 i ∧ q = .int .i64 ((1 + i : Nat) : Int) ∧ Below w.heap.size w wr) (fun _ i' _ => n - (intOf i').toNat)
  case atStart => exact ⟨0, Nat.zero_le _, rfl, rfl, Below.refl _ _⟩
  case round =>
    obtain ⟨i, hi, rfl, rfl, hN⟩ := hrel
    by_cases hlt : i < n
    · obtain ⟨g, rfl, hcc⟩ := HC.out (by omega)
      have c0 := kc hN (hcc i hlt)
      have MT := Lib.hid (fun w => markText_any (k := 1 + i) (by omega) (by omega) w)
      obtain ⟨t, ht⟩ : ∃ t, mkT (1 + i) = t := ⟨_, rfl⟩
      rw [ht] at c0 MT
      have hq : (t.toList == t.toList) = true := beq_self_eq_true _
      have hlt2 : decide ((i : Int) < (n : Int)) = true := by simp; omega
      have HN := Lib.hid hN
      clear hcc ht hN
      go_wp2_with fail
      go_region_held3 (fun w' => w'.cell? ⟨g, i, none⟩ = some (.string t)) (first | exact c0 | exact d0)
        (first
          | (go_at_call 65; refine (MT.out _).mono ?_; rintro e w' ⟨rfl, hb1⟩; have d0 := kcd hb1 c0))
      go_wp2
      go_roundw
      case rel => exact ⟨i + 1, by omega, by go_num, by go_num, bthen HN.out.drew hb1⟩
      case measure => simp [intOf]; omega
    · obtain rfl : i = n := by omega
      have hlt2 : decide ((i : Int) < (i : Int)) = false := by simp
      go_wp2
      go_ret
      exact ⟨rfl, hN⟩
set_option maxRecDepth 100000 in
set_option maxHeartbeats 4000000 in
theorem eqStringS_same {b1 b2 : Nat} {s1 s2 : Value} {xs : List ByteArray} (hl : xs.length ≤ 1048576) (w : World) (h1 : OwnsS w b1 s1 xs) (h2 : OwnsS w b2 s2 xs) :
    Calls Tryd.prog 33 #[s1, s2] w fun e w' => e = .returned (.bool true) ∧ Below w.heap.size w w' := by
  obtain ⟨a1, cap1, rfl, hc1⟩ := h1.cellsS
  obtain ⟨a2, cap2, rfl, hc2⟩ := h2.cellsS
  have HC1 := Lib.hid hc1
  have HC2 := Lib.hid hc2
  clear hc1 hc2 h1 h2
  go_enter Tryd.func33, Tryd.ntmps33
  go_wp2
  go_loopw [5] (fun i' wr => ∃ i : Nat, i ≤ xs.length ∧ i' = .int .i64 i ∧ Below w.heap.size w wr) (fun i' _ => xs.length - (intOf i').toNat)
  case atStart => exact ⟨0, Nat.zero_le _, rfl, Below.refl _ _⟩
  case round =>
    obtain ⟨i, hi, rfl, hN⟩ := hrel
    by_cases hlt : i < xs.length
    · obtain ⟨g1, rfl, _, _, hcc1⟩ := HC1.out (by omega)
      obtain ⟨g2, rfl, _, _, hcc2⟩ := HC2.out (by omega)
      have d1 := kc hN (hcc1 i hlt)
      have d2 := kc hN (hcc2 i hlt)
      obtain ⟨t, ht⟩ : ∃ t, xs[i] = t := ⟨_, rfl⟩
      rw [ht] at d1 d2
      have hq : (t.toList == t.toList) = true := beq_self_eq_true _
      have hlt2 : decide ((i : Int) < (xs.length : Int)) = true := by simp; omega
      clear hcc1 hcc2 ht
      go_wp2
      go_quiet (fail)
      go_wp2
      go_roundw
      case rel => exact ⟨i + 1, by omega, by go_num, below_drewN hN _⟩
      case measure => simp [intOf]; omega
    · obtain rfl : i = xs.length := by omega
      have hlt2 : decide ((xs.length : Int) < (xs.length : Int)) = false := by simp
      go_wp2
      go_ret
      exact ⟨rfl, hN⟩
end Go.Proofs.YtleighihfgabkaaDoor
