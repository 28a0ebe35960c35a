/-
  NamedFunc in the program.
-/
import Derived.Test.YtkemegiofiemfabW1
namespace Go.Proofs.Ytkemegiofiemfab
open Go.RowKit
open Go.Maps (Keyed IsMap)
set_option linter.unusedVariables false
set_option linter.unusedSimpArgs false

theorem zeroFn (w : World) : (zeroValue 26).run Try.prog w = .ok (.agg #[.int .i64 0, .int .i64 0]) w := by kernel_rfl
theorem nmL_apart : nmL.Pairwise fun a b => a.1 ≠ b.1 := by decide

def NamedPost (n x c : Int) (w : World) (e : Ending) (w' : World) : Prop := e = .returned (.tuple #[.agg #[.int .i64 n, .int .i64 x], .int .i64 c]) ∧ Below w.heap.size w w'

set_option maxRecDepth 100000 in
set_option maxHeartbeats 4000000 in
theorem implNamedFunc_some {s : ByteArray} (hs : s.size ≤ 1048576) {e : List UInt8 × Int × Int} (h : nmL.find? (fun e => e.1 == s.data.toList) = some e) (w : World) :
    Calls Try.prog 23 #[.string s] w (NamedPost e.2.1 e.2.2 0 w) := by
  have hh : Maps.has (putNm (.map []) nmL) (.string s.data.toList) = true := by
    rw [has_putNm ⟨_, rfl⟩, List.any_eq_true.2 ⟨e, List.mem_of_find?_eq_some h, by simpa using List.find?_some h⟩]
    rfl
  have hat : (putNm (.map []) nmL).atKey (.string s.data.toList) (fnD 0 0) = fnD e.2.1 e.2.2 := by
    rw [at_putNm ⟨_, rfl⟩ _ nmL_apart, h]
  have HAT := Lib.hid hat
  clear hat h
  have hkey := WideMaps.keyOf_string_mk Try.underlying9 (s := s) (by unfold maxLen; omega)
  have HKEY := Lib.hid hkey
  clear hkey
  obtain ⟨W1, hW1, p0, p1, f0, f1, hB, hs1⟩ := ofBox w
  clear hs1
  go_enter Try.func23, Try.ntmps23
  go_wp2_with (first
    | (go_at_call 92; refine (funcsByName_any _).mono ?_; rintro e' w6 ⟨rfl, hown, hb⟩; have u0 := kc hb p0; have u1 := kc hb p1; have g0 := kf hb p0 f0; have g1 := kf hb p1 f1; have hB2 := bthen hB hb; have hsz6 : w.heap.size < w6.heap.size := cell_lt u0; have hne6 : ¬ (w.heap.size = w6.heap.size) := by omega)
    | (at_lookup; refine wpList_lookup_own_ok _ rfl _ _ 84 rfl 9 26 lawS Try.underlying84 rdFn (zeroFn _) (fnD 0 0) [] rfl W1.heap.size 14 _ rfl hown _ _ rfl HKEY.out ?_; intro v ps hv; rw [HAT.out] at hv; obtain rfl := rdFn_inv hv; clear hv hown))
  have Y0 : ((w6.setCell ⟨w.heap.size, 0, none⟩ (.int .i64 e.2.1)).setCell ⟨w.heap.size, 1, none⟩ (.int .i64 e.2.2)).cell? ⟨w.heap.size, 0, none⟩ = some (.int .i64 e.2.1) := by simp [go_sem, u0, u1]
  have Y1 : ((w6.setCell ⟨w.heap.size, 0, none⟩ (.int .i64 e.2.1)).setCell ⟨w.heap.size, 1, none⟩ (.int .i64 e.2.2)).cell? ⟨w.heap.size, 1, none⟩ = some (.int .i64 e.2.2) := by simp [go_sem, u0, u1]
  have Z0 := fun o => kc (bnew _ o) Y0
  have Z1 := fun o => kc (bnew _ o) Y1
  exact bodyPost_ret (v := .tuple #[.agg #[.int .i64 e.2.1, .int .i64 e.2.2], .int .i64 0]) (by simp [results, Try.results23, go_sem, Z0, Z1]) rfl ⟨rfl, by first | exact balloc ((hB2.setCell (p := ⟨w.heap.size, 0, none⟩) (by simp) _).setCell (p := ⟨w.heap.size, 1, none⟩) (by simp) _) _ | exact ((balloc hB2 _).setCell (p := ⟨w.heap.size, 0, none⟩) (by simp) _).setCell (p := ⟨w.heap.size, 1, none⟩) (by simp) _⟩

set_option maxRecDepth 100000 in
set_option maxHeartbeats 4000000 in
theorem implNamedFunc_none {s : ByteArray} (hs : s.size ≤ 1048576) (h : nmL.find? (fun e => e.1 == s.data.toList) = none) (w : World) :
    Calls Try.prog 23 #[.string s] w (NamedPost 0 0 4 w) := by
  have hh : Maps.has (putNm (.map []) nmL) (.string s.data.toList) = false := by
    rw [has_putNm ⟨_, rfl⟩, List.any_eq_false.2 (fun b hb => List.find?_eq_none.1 h b hb)]
    rfl
  have hat : (putNm (.map []) nmL).atKey (.string s.data.toList) (fnD 0 0) = fnD 0 0 := by
    rw [at_putNm ⟨_, rfl⟩ _ nmL_apart, h]
    rfl
  have HAT := Lib.hid hat
  clear hat h
  have hkey := WideMaps.keyOf_string_mk Try.underlying9 (s := s) (by unfold maxLen; omega)
  have HKEY := Lib.hid hkey
  clear hkey
  obtain ⟨W1, hW1, p0, p1, f0, f1, hB, hs1⟩ := ofBox w
  clear hs1
  go_enter Try.func23, Try.ntmps23
  go_wp2_with (first
    | (go_at_call 92; refine (funcsByName_any _).mono ?_; rintro e' w6 ⟨rfl, hown, hb⟩; have u0 := kc hb p0; have u1 := kc hb p1; have g0 := kf hb p0 f0; have g1 := kf hb p1 f1; have hB2 := bthen hB hb; have hsz6 : w.heap.size < w6.heap.size := cell_lt u0; have hne6 : ¬ (w.heap.size = w6.heap.size) := by omega)
    | (at_lookup; refine wpList_lookup_own_ok _ rfl _ _ 84 rfl 9 26 lawS Try.underlying84 rdFn (zeroFn _) (fnD 0 0) [] rfl W1.heap.size 14 _ rfl hown _ _ rfl HKEY.out ?_; intro v ps hv; rw [HAT.out] at hv; obtain rfl := rdFn_inv hv; clear hv hown))
  have Y0 : ((w6.setCell ⟨w.heap.size, 0, none⟩ (.int .i64 0)).setCell ⟨w.heap.size, 1, none⟩ (.int .i64 0)).cell? ⟨w.heap.size, 0, none⟩ = some (.int .i64 0) := by simp [go_sem, u0, u1]
  have Y1 : ((w6.setCell ⟨w.heap.size, 0, none⟩ (.int .i64 0)).setCell ⟨w.heap.size, 1, none⟩ (.int .i64 0)).cell? ⟨w.heap.size, 1, none⟩ = some (.int .i64 0) := by simp [go_sem, u0, u1]
  have Z0 := fun o => kc (bnew _ o) Y0
  have Z1 := fun o => kc (bnew _ o) Y1
  exact bodyPost_ret (v := .tuple #[.agg #[.int .i64 0, .int .i64 0], .int .i64 4]) (by simp [results, Try.results23, go_sem, Z0, Z1]) rfl ⟨rfl, by first | exact balloc ((hB2.setCell (p := ⟨w.heap.size, 0, none⟩) (by simp) _).setCell (p := ⟨w.heap.size, 1, none⟩) (by simp) _) _ | exact ((balloc hB2 _).setCell (p := ⟨w.heap.size, 0, none⟩) (by simp) _).setCell (p := ⟨w.heap.size, 1, none⟩) (by simp) _⟩
end Go.Proofs.Ytkemegiofiemfab
