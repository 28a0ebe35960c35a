/-
  NamedFunc in the model.
-/
import Derived.Test.YtkemegiofiemfabW2
namespace Go.Proofs.Ytkemegiofiemfab
open Go.RowKit
set_option linter.unusedVariables false
set_option linter.unusedSimpArgs false

/-- The texts of the functions that have names. -/
def txL : List (List UInt8) := [[48, 58, 48], [48, 58, 49], [49, 58, 48, 49], [49, 58, 49, 48], [50, 58, 48, 48, 48, 49], [50, 58, 48, 49, 49, 49], [50, 58, 48, 49, 49, 48], [50, 58, 49, 49, 49, 48], [50, 58, 49, 48, 48, 48], [50, 58, 49, 48, 48, 49], [50, 58, 49, 48, 49, 49], [51, 58, 48, 48, 48, 49, 48, 49, 49, 49], [51, 58, 48, 49, 49, 48, 49, 48, 48, 49], [51, 58, 48, 48, 48, 49, 49, 48, 49, 49]]
def nmK (i : Nat) : List UInt8 := (nmL[i]?.map (·.1)).getD []
def nmAt (i : Nat) : ByteArray := ⟨(nmK i).toArray⟩
def txAt (i : Nat) : ByteArray := ⟨((txL[i]?).getD []).toArray⟩
theorem cell_newB (w : World) (cs : Array Value) (t : TypeId) (i : Nat) : (w.alloc (.cells cs t)).cell? ⟨w.heap.size, i, none⟩ = cs[i]? := by simp [go_sem]
theorem nmAt_cmp (i : Nat) (s : ByteArray) : ((nmAt i).toList == s.toList) = (nmK i == s.data.toList) := by
  rw [Lib.toList_data, Lib.toList_data]
  rfl
theorem cells_of_list {l : List ByteArray} {i : Nat} (h : i < l.length) : ((l.map Value.string).toArray)[i]? = some (.string l[i]) := by simp [h]

set_option maxRecDepth 100000 in
set_option maxHeartbeats 1000000 in
theorem l01Names_any (w : World) :
    Calls Try.prog 89 #[] w fun e w' => e = .returned (.slice (some ⟨w.heap.size, 0, none⟩) 14 14) ∧ Hid (∀ i, i < 14 → w'.cell? ⟨w.heap.size, i, none⟩ = some (.string (nmAt i))) ∧ Below w.heap.size w w' := by
  go_enter Try.func89, Try.ntmps89
  go_wp2
  go_ret
  refine ⟨rfl, Lib.hid fun i hi => ?_, bnew _ _⟩
  rw [cell_newB]
  match i, hi with
  | 0, _ | 1, _ | 2, _ | 3, _ | 4, _ | 5, _ | 6, _ | 7, _ | 8, _ | 9, _ | 10, _ | 11, _ | 12, _ | 13, _ => rfl

set_option maxRecDepth 100000 in
set_option maxHeartbeats 1000000 in
theorem l01Known_any (w : World) :
    Calls Try.prog 90 #[] w fun e w' => e = .returned (.slice (some ⟨w.heap.size, 0, none⟩) 14 14) ∧ Hid (∀ i, i < 14 → w'.cell? ⟨w.heap.size, i, none⟩ = some (.string (txAt i))) ∧ Below w.heap.size w w' := by
  go_enter Try.func90, Try.ntmps90
  go_wp2
  go_ret
  refine ⟨rfl, Lib.hid fun i hi => ?_, bnew _ _⟩
  rw [cell_newB]
  match i, hi with
  | 0, _ | 1, _ | 2, _ | 3, _ | 4, _ | 5, _ | 6, _ | 7, _ | 8, _ | 9, _ | 10, _ | 11, _ | 12, _ | 13, _ => rfl

theorem txAt_size (i : Nat) : (txAt i).size ≤ 1048576 := by
  match i with
  | 0 | 1 | 2 | 3 | 4 | 5 | 6 | 7 | 8 | 9 | 10 | 11 | 12 | 13 => decide +kernel
  | n + 14 => exact Nat.zero_le _
/-- What is read of the texts. -/
theorem txAt_read (i : Nat) (h : i < 14) : rdOk (txAt i) = true ∧ txN (txAt i) = (nmL[i]?.map (·.2.1)).getD 0 ∧ rdB (txAt i) = (nmL[i]?.map (·.2.2)).getD 0 := by
  match i, h with
  | 0, _ | 1, _ | 2, _ | 3, _ | 4, _ | 5, _ | 6, _ | 7, _ | 8, _ | 9, _ | 10, _ | 11, _ | 12, _ | 13, _ => decide +kernel

set_option maxRecDepth 100000 in
set_option maxHeartbeats 2000000 in
theorem specNamedFunc_some {s : ByteArray} {k : Nat} (hk : k < 14) (hs : nmK k = s.data.toList) (hb : ∀ j, j < k → nmK j ≠ s.data.toList) (w : World) :
    Calls Try.prog 22 #[.string s] w (NamedPost (txN (txAt k)) (rdB (txAt k)) 0 w) := by
  have hbe := Lib.hid fun j (hj : j < k) => (by rw [nmAt_cmp]; simpa using hb j hj : ((nmAt j).toList == s.toList) = false)
  have hke : ((nmAt k).toList == s.toList) = true := by rw [nmAt_cmp, hs]; simp
  have RD := Lib.hid fun W => l01Read_any (txAt k) (txAt_size k) W
  rw [(txAt_read k hk).1] at RD
  have RD0 := Lib.hid fun W => (RD.out W : Calls _ _ _ _ fun e w' => e = .returned (.tuple #[.agg #[.int .i64 (txN (txAt k)), .int .i64 (rdB (txAt k))], .bool true]) ∧ Below W.heap.size W w')
  clear hs hb RD
  generalize txN (txAt k) = n at RD0 ⊢
  generalize rdB (txAt k) = b at RD0 ⊢
  obtain ⟨W1, hW1, p0, p1, f0, f1, hB, hs1⟩ := ofBox w
  clear hs1
  have hMono : True := trivial
  go_enter Try.func22, Try.ntmps22
  go_wp2_with (first
    | (go_at_call 89; refine (l01Names_any _).mono ?_; rintro e' w2 ⟨rfl, hn, hb2⟩; have q0 := kc hb2 p0; have q1 := kc hb2 p1; have g0 := kf hb2 p0 f0; have g1 := kf hb2 p1 f1; have hB2 := bthen hB hb2)
    | (go_at_call 90; refine (l01Known_any _).mono ?_; rintro e' w3 ⟨rfl, ht, hb3⟩; have r0 := kc hb3 q0; have r1 := kc hb3 q1; have j0 := kf hb3 q0 g0; have j1 := kf hb3 q1 g1; have hB3 := bthen hB2 hb3))
  have hn3 : Hid (∀ i, i < 14 → w3.cell? ⟨W1.heap.size, i, none⟩ = some (.string (nmAt i))) := Lib.hid fun i hi => kc hb3 (hn.out i hi)
  clear hn hb2 hb3 q0 q1 g0 g1 hB hB2 p0 p1 f0 f1 hW1
  go_loopw [6] (fun i' wr => ∃ i : Nat, i ≤ k ∧ i' = .int .i64 i ∧ wr = w3) (fun i' _ => 14 - (intOf i').toNat)
  case atStart => exact ⟨0, Nat.zero_le _, rfl, rfl⟩
  case round =>
    obtain ⟨i, hi, rfl, rfl⟩ := hrel
    have hi14 : (i : Int) < 14 := by omega
    have hi0 : (0 : Int) ≤ (i : Int) := by omega
    have hc := hn3.out i (by omega)
    have ht' := ht.out i (by omega)
    by_cases hlt : i < k
    · have hcmp := hbe.out i hlt
      go_wp2
      go_roundw
      case rel => exact ⟨i + 1, by omega, by go_num, trivial⟩
      case measure => simp [intOf]; omega
    · obtain rfl : i = k := by omega
      go_wp2_with (go_at_call 91; refine (RD0.out _).mono ?_; rintro e w6 ⟨rfl, hb⟩; have u0 := kc hb r0; have u1 := kc hb r1; have v0 := kf hb r0 j0; have v1 := kf hb r1 j1; have hB6 := bthen hB3 hb; have hsz6 : w.heap.size < w6.heap.size := cell_lt u0; have hne6 : ¬ (w.heap.size = w6.heap.size) := by omega)
      have Y0 : ((w6.setCell ⟨w.heap.size, 0, none⟩ (.int .i64 n)).setCell ⟨w.heap.size, 1, none⟩ (.int .i64 b)).cell? ⟨w.heap.size, 0, none⟩ = some (.int .i64 n) := by simp [go_sem, u0, u1]
      have Y1 : ((w6.setCell ⟨w.heap.size, 0, none⟩ (.int .i64 n)).setCell ⟨w.heap.size, 1, none⟩ (.int .i64 b)).cell? ⟨w.heap.size, 1, none⟩ = some (.int .i64 b) := by simp [go_sem, u0, u1]
      have Z0 := fun o => kc (bnew _ o) Y0
      have Z1 := fun o => kc (bnew _ o) Y1
      exact bodyPost_ret (v := .tuple #[.agg #[.int .i64 n, .int .i64 b], .int .i64 0]) (by simp [results, Try.results22, go_sem, Z0, Z1]) rfl ⟨rfl, by first | exact balloc ((hB6.setCell (p := ⟨w.heap.size, 0, none⟩) (by simp) _).setCell (p := ⟨w.heap.size, 1, none⟩) (by simp) _) _ | exact ((balloc hB6 _).setCell (p := ⟨w.heap.size, 0, none⟩) (by simp) _).setCell (p := ⟨w.heap.size, 1, none⟩) (by simp) _⟩

set_option maxRecDepth 100000 in
set_option maxHeartbeats 2000000 in
theorem specNamedFunc_none {s : ByteArray} (hb : ∀ j, j < 14 → nmK j ≠ s.data.toList) (w : World) :
    Calls Try.prog 22 #[.string s] w (NamedPost 0 0 4 w) := by
  have hbe := Lib.hid fun j (hj : j < 14) => (by rw [nmAt_cmp]; simpa using hb j hj : ((nmAt j).toList == s.toList) = false)
  clear hb
  obtain ⟨W1, hW1, p0, p1, f0, f1, hB, hs1⟩ := ofBox w
  clear hs1
  go_enter Try.func22, Try.ntmps22
  go_wp2_with (first
    | (go_at_call 89; refine (l01Names_any _).mono ?_; rintro e' w2 ⟨rfl, hn, hb2⟩; have q0 := kc hb2 p0; have q1 := kc hb2 p1; have g0 := kf hb2 p0 f0; have g1 := kf hb2 p1 f1; have hB2 := bthen hB hb2)
    | (go_at_call 90; refine (l01Known_any _).mono ?_; rintro e' w3 ⟨rfl, ht, hb3⟩; have r0 := kc hb3 q0; have r1 := kc hb3 q1; have j0 := kf hb3 q0 g0; have j1 := kf hb3 q1 g1; have hB3 := bthen hB2 hb3))
  have hn3 : Hid (∀ i, i < 14 → w3.cell? ⟨W1.heap.size, i, none⟩ = some (.string (nmAt i))) := Lib.hid fun i hi => kc hb3 (hn.out i hi)
  clear hn hb2 hb3 q0 q1 g0 g1 hB hB2 p0 p1 f0 f1 hW1
  go_loopw [6] (fun i' wr => ∃ i : Nat, i ≤ 14 ∧ i' = .int .i64 i ∧ wr = w3) (fun i' _ => 14 - (intOf i').toNat)
  case atStart => exact ⟨0, Nat.zero_le _, rfl, rfl⟩
  case round =>
    obtain ⟨i, hi, rfl, rfl⟩ := hrel
    by_cases hlt : i < 14
    · have hi14 : (i : Int) < 14 := by omega
      have hi0 : (0 : Int) ≤ (i : Int) := by omega
      have hc := hn3.out i (by omega)
      have hcmp := hbe.out i hlt
      go_wp2
      go_roundw
      case rel => exact ⟨i + 1, by omega, by go_num, trivial⟩
      case measure => simp [intOf]; omega
    · obtain rfl : i = 14 := by omega
      go_wp2
      exact bodyPost_ret (v := .tuple #[.agg #[.int .i64 0, .int .i64 0], .int .i64 4]) (by simp [results, Try.results22, go_sem, r0, r1]) rfl ⟨rfl, (hB3.setCell (p := ⟨w.heap.size, 0, none⟩) (by simp) _).setCell (p := ⟨w.heap.size, 1, none⟩) (by simp) _⟩
end Go.Proofs.Ytkemegiofiemfab
