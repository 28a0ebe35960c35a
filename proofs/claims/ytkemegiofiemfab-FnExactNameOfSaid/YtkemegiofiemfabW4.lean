/-
  NamedFunc: both packages.
-/
import Derived.Test.YtkemegiofiemfabW3
namespace Go.Proofs.Ytkemegiofiemfab
open Go.RowKit
set_option linter.unusedVariables false

theorem nmL_len : nmL.length = 14 := rfl
theorem nmK_get {i : Nat} (h : i < nmL.length) : nmK i = nmL[i].1 := by simp [nmK, h]

theorem bothNamedFunc (s : ByteArray) (hs : s.size ≤ 1048576) : ∃ rn rb rc : Int,
    (∀ w, Calls Try.prog 22 #[.string s] w fun e w' => e = .returned (.tuple #[.agg #[.int .i64 rn, .int .i64 rb], .int .i64 rc]) ∧ Below w.heap.size w w') ∧
    (∀ w, Calls Try.prog 23 #[.string s] w fun e w' => e = .returned (.tuple #[.agg #[.int .i64 rn, .int .i64 rb], .int .i64 rc]) ∧ Below w.heap.size w w') := by
  cases h : nmL.find? (fun e => e.1 == s.data.toList) with
  | none =>
    have hn := List.find?_eq_none.1 h
    refine ⟨0, 0, 4, fun w => specNamedFunc_none (fun j hj e => ?_) w, fun w => implNamedFunc_none hs h w⟩
    have hj' : j < nmL.length := hj
    exact hn nmL[j] (List.getElem_mem hj') (by rw [← e, nmK_get hj']; simp)
  | some e =>
    obtain ⟨hp, k, hk, he, hbefore⟩ := List.find?_eq_some_iff_getElem.1 h
    have hk14 : k < 14 := hk
    have hr := txAt_read k hk14
    have e0 : nmL[k]? = some e := by rw [List.getElem?_eq_getElem hk, he]
    refine ⟨e.2.1, e.2.2, 0, fun w => ?_, fun w => implNamedFunc_some hs h w⟩
    have M := specNamedFunc_some (s := s) hk14 (by rw [nmK_get hk, he]; simpa using hp) (fun j hj c => by
      have hj' : j < nmL.length := Nat.lt_trans hj hk
      have := hbefore j hj
      rw [← c, nmK_get hj'] at this
      simp at this) w
    rw [hr.2.1, hr.2.2, e0] at M
    exact M
end Go.Proofs.Ytkemegiofiemfab
