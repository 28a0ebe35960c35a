/-
  A list that came in, copied; lists of digits.
-/
import Derived.Test.YtleighihfgabkaaDoorL1
namespace Go.Proofs.YtleighihfgabkaaDoor
open Go.RowKit

/-- What a walk is told of a slice of integers that came in: it is nil; or it leads to a row of 'cap' cells, the numbers 'zs' (the first 'len' are its elements), each fitting its kind. -/
def IsRow (k : IntKind) (w : World) (a : Option Addr) (len cap : Nat) (zs : List Int) : Prop :=
  (a = none ∧ len = 0 ∧ cap = 0 ∧ zs = []) ∨
  ∃ x, a = some x ∧ len ≤ cap ∧ cap ≤ maxLen ∧ zs.length = cap ∧ (∀ i, i < zs.length → w.cell? (x.add i) = some (.int k (zs.getD i 0))) ∧ ∀ n ∈ zs, (Lit.int k n).wf = true

theorem IsRow.spot {k : IntKind} {w : World} {a : Option Addr} {len cap : Nat} {zs : List Int} (h : IsRow k w a len cap zs) :
    len ≤ zs.length ∧ (len = 0 ∨ ∃ b off, a = some ⟨b, off, none⟩ ∧ b < w.heap.size ∧ Hid (∀ j, j < len → w.cell? ⟨b, off + j, none⟩ = some (.int k (zs[j]?.getD 0)))) := by
  rcases h with ⟨rfl, rfl, rfl, rfl⟩ | ⟨x, rfl, h1, h2, h3, hc, _⟩
  · exact ⟨Nat.le_refl _, .inl rfl⟩
  · refine ⟨by omega, ?_⟩
    by_cases h0 : len = 0
    · exact .inl h0
    · obtain ⟨b, off, spot⟩ := x
      have hc0 := hc 0 (by omega)
      have hs : spot = none := by simpa [Addr.add] using World.cell?_spot hc0
      subst hs
      have hb : b < w.heap.size := cell_lt (a := ⟨b, off, none⟩) (by simpa [Addr.add] using hc0)
      refine .inr ⟨b, off, rfl, hb, Lib.hid fun j hj => ?_⟩
      have := hc j (by omega)
      have e : Addr.add ⟨b, off, none⟩ j = ⟨b, off + j, none⟩ := by
        cases j <;> simp [Addr.add]
      rw [e] at this
      simpa [List.getD] using this

theorem copy_step (zs : List Int) (vs : List Value) (i : Nat) (hi : i < vs.length) (hz : i < zs.length) : (ints (zs.take i) ++ vs.drop i).set i (.int .i64 (zs[i]?.getD 0)) = ints (zs.take (i + 1)) ++ vs.drop (i + 1) := by
  have hl : (ints (zs.take i)).length = i := by simp [ints]; omega
  rw [List.set_append_right _ _ (by omega), hl, Nat.sub_self, List.drop_eq_getElem_cons hi, List.set_cons_zero, List.take_succ_eq_append_getElem hz]
  unfold ints
  rw [List.map_append, List.append_assoc, List.getElem?_eq_getElem hz]
  rfl

end Go.Proofs.YtleighihfgabkaaDoor
