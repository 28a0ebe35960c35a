/-
  ParseFunc: both packages.
-/
import Derived.Test.YtkemegiofiemfabV3
namespace Go.Proofs.Ytkemegiofiemfab
open Go.RowKit
set_option linter.unusedVariables false
set_option linter.unusedSimpArgs false

set_option maxRecDepth 100000 in
set_option maxHeartbeats 2000000 in
theorem specParseFunc_any (s : ByteArray) (hs : s.size ≤ 1048576) (w : World) :
    Calls Try.prog 28 #[.string s] w (ParsePost (rdOk s) (txN s) (rdB s) w) := by
  obtain ⟨W1, hW1, p0, p1, f0, f1, hB, hs1⟩ := ofBox w
  have RD := Lib.hid fun W => l01Read_any s hs W
  generalize rdOk s = ok at RD ⊢
  generalize txN s = n at RD ⊢
  generalize rdB s = b at RD ⊢
  cases ok
  · have RD0 := Lib.hid fun W => (RD.out W : Calls _ _ _ _ fun e w' => e = .returned (.tuple #[.agg #[.int .i64 0, .int .i64 0], .bool false]) ∧ Below W.heap.size W w')
    go_enter Try.func28, Try.ntmps28
    go_wp2_with (first
      | (go_at_call 91; refine (RD0.out _).mono ?_; rintro e w6 ⟨rfl, hb⟩; have u0 := kc hb p0; have u1 := kc hb p1; have g0 := kf hb p0 f0; have g1 := kf hb p1 f1; have hB2 := bthen hB hb; have hsz6 : w.heap.size < w6.heap.size := cell_lt u0; have hne6 : ¬ (w.heap.size = w6.heap.size) := by omega))
    have Y0 : ((w6.setCell ⟨w.heap.size, 0, none⟩ (.int .i64 0)).setCell ⟨w.heap.size, 1, none⟩ (.int .i64 0)).cell? ⟨w.heap.size, 0, none⟩ = some (.int .i64 0) := by simp [go_sem, u0, u1]
    have Y1 : ((w6.setCell ⟨w.heap.size, 0, none⟩ (.int .i64 0)).setCell ⟨w.heap.size, 1, none⟩ (.int .i64 0)).cell? ⟨w.heap.size, 1, none⟩ = some (.int .i64 0) := by simp [go_sem, u0, u1]
    have Z0 := fun o => kc (bnew _ o) Y0
    have Z1 := fun o => kc (bnew _ o) Y1
    exact bodyPost_ret (v := .tuple #[.agg #[.int .i64 0, .int .i64 0], .int .i64 6]) (by simp [results, Try.results28, go_sem, Z0, Z1]) rfl ⟨rfl, by first | exact balloc ((hB2.setCell (p := ⟨w.heap.size, 0, none⟩) (by simp) _).setCell (p := ⟨w.heap.size, 1, none⟩) (by simp) _) _ | exact ((balloc hB2 _).setCell (p := ⟨w.heap.size, 0, none⟩) (by simp) _).setCell (p := ⟨w.heap.size, 1, none⟩) (by simp) _⟩
  · have RD0 := Lib.hid fun W => (RD.out W : Calls _ _ _ _ fun e w' => e = .returned (.tuple #[.agg #[.int .i64 n, .int .i64 b], .bool true]) ∧ Below W.heap.size W w')
    go_enter Try.func28, Try.ntmps28
    go_wp2_with (first
      | (go_at_call 91; refine (RD0.out _).mono ?_; rintro e w6 ⟨rfl, hb⟩; have u0 := kc hb p0; have u1 := kc hb p1; have g0 := kf hb p0 f0; have g1 := kf hb p1 f1; have hB2 := bthen hB hb; have hsz6 : w.heap.size < w6.heap.size := cell_lt u0; have hne6 : ¬ (w.heap.size = w6.heap.size) := by omega))
    have Y0 : ((w6.setCell ⟨w.heap.size, 0, none⟩ (.int .i64 n)).setCell ⟨w.heap.size, 1, none⟩ (.int .i64 b)).cell? ⟨w.heap.size, 0, none⟩ = some (.int .i64 n) := by simp [go_sem, u0, u1]
    have Y1 : ((w6.setCell ⟨w.heap.size, 0, none⟩ (.int .i64 n)).setCell ⟨w.heap.size, 1, none⟩ (.int .i64 b)).cell? ⟨w.heap.size, 1, none⟩ = some (.int .i64 b) := by simp [go_sem, u0, u1]
    have Z0 := fun o => kc (bnew _ o) Y0
    have Z1 := fun o => kc (bnew _ o) Y1
    exact bodyPost_ret (v := .tuple #[.agg #[.int .i64 n, .int .i64 b], .int .i64 0]) (by simp [results, Try.results28, go_sem, Z0, Z1]) rfl ⟨rfl, by first | exact balloc ((hB2.setCell (p := ⟨w.heap.size, 0, none⟩) (by simp) _).setCell (p := ⟨w.heap.size, 1, none⟩) (by simp) _) _ | exact ((balloc hB2 _).setCell (p := ⟨w.heap.size, 0, none⟩) (by simp) _).setCell (p := ⟨w.heap.size, 1, none⟩) (by simp) _⟩

theorem bothParseFunc (s : ByteArray) (hs : s.size ≤ 1048576) : ∃ rn rb rc : Int,
    (∀ w, Calls Try.prog 28 #[.string s] w fun e w' => e = .returned (.tuple #[.agg #[.int .i64 rn, .int .i64 rb], .int .i64 rc]) ∧ Below w.heap.size w w') ∧
    (∀ w, Calls Try.prog 29 #[.string s] w fun e w' => e = .returned (.tuple #[.agg #[.int .i64 rn, .int .i64 rb], .int .i64 rc]) ∧ Below w.heap.size w w') :=
  ⟨_, _, _, fun w => specParseFunc_any s hs w, fun w => implParseFunc_any s hs w⟩
end Go.Proofs.Ytkemegiofiemfab
