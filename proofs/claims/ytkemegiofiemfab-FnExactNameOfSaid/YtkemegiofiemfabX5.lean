/-
  NameOf: both packages.
-/
import Derived.Test.YtkemegiofiemfabX4
namespace Go.Proofs.Ytkemegiofiemfab
open Go.RowKit
set_option linter.unusedVariables false

theorem nmP_get {i : Nat} (h : i < nmL.length) : nmP i = nmL[i].2 := by simp [nmP, h]

theorem bothNameOf (n b : Int) (wn : (Lit.int .i64 n).wf = true) (wb : (Lit.int .i64 b).wf = true) : ∃ (t : ByteArray) (rc : Int),
    (∀ w, Calls Try.prog 24 #[.agg #[.int .i64 n, .int .i64 b]] w fun e w' => e = .returned (.tuple #[.string t, .int .i64 rc]) ∧ Below w.heap.size w w') ∧
    (∀ w, Calls Try.prog 25 #[.agg #[.int .i64 n, .int .i64 b]] w fun e w' => e = .returned (.tuple #[.string t, .int .i64 rc]) ∧ Below w.heap.size w w') := by
  cases h : isF n b
  · exact ⟨_, _, fun w => specNameOf_no h w, fun w => implNameOf_no h w⟩
  · obtain ⟨x, R, rfl, ok⟩ := fok h
    cases ho : nameOf (n, (x : Int)) with
    | none =>
      have hn := List.find?_eq_none.1 ho
      refine ⟨_, _, fun w => specNameOf_yes ok h (k := 14) (Nat.le_refl _) (fun j hj => ?_) (fun hk => absurd hk (Nat.lt_irrefl _)) w, fun w => implNameOf_yes h ⟨wn, wb⟩ ho w⟩
      have hj' : j < nmL.length := hj
      have := hn nmL[j] (List.getElem_mem hj')
      rw [nmP_get hj']
      simpa using this
    | some e =>
      obtain ⟨hp, k, hk, he, hbefore⟩ := List.find?_eq_some_iff_getElem.1 ho
      have hk14 : k < 14 := hk
      refine ⟨_, _, fun w => ?_, fun w => implNameOf_yes h ⟨wn, wb⟩ ho w⟩
      have M := specNameOf_yes ok h (k := k) (Nat.le_of_lt hk14) (fun j hj => by
        have hj' : j < nmL.length := Nat.lt_trans hj hk
        have := hbefore j hj
        rw [nmP_get hj']
        simpa using this) (fun _ => by rw [nmP_get hk, he]; simpa using hp) w
      rw [if_pos hk14, if_pos hk14] at M
      have hname : nmAt k = nameB (some e) := by
        unfold nmAt
        rw [nmK_get hk, he]
        rfl
      rw [hname] at M
      exact M
end Go.Proofs.Ytkemegiofiemfab
