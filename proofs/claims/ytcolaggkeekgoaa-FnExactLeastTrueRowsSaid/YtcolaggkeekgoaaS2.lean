/-
  Lists of values that are appended to.
-/
import Derived.Test.YtcolaggkeekgoaaS1
import Derived.Maps.AppendAt
namespace Go.Proofs.Ytcolaggkeekgoaa
open Go.RowKit

theorem infoI : (Try.prog.info? 2).map (fun i => (i.zero, i.size, i.bytes)) = some (some (.int .i64 0), 1, 8) := by kernel_rfl

def valsN (v : Nat → Nat) (k : Nat) : List Value := (List.range k).map fun j => .int .i64 (v j : Int)
theorem valsN_succ (v : Nat → Nat) (k : Nat) : valsN v (k + 1) = valsN v k ++ [.int .i64 (v k : Int)] := by simp [valsN, List.range_succ]
theorem valsN_length (v : Nat → Nat) (k : Nat) : (valsN v k).length = k := by simp [valsN]
theorem valsN_get (v : Nat → Nat) (k j : Nat) (h : j < k) : (valsN v k)[j]? = some (.int .i64 (v j : Int)) := by simp [valsN, h]

theorem owns_below {W W' : World} {base : Nat} {e : TypeId} {size : Nat} {v : Value} {n : Nat} {xs : List Value} (h : W.ownsRow base e size v n xs) (hb : Below W.heap.size W W') : W'.ownsRow base e size v n xs := by
  obtain ⟨h1, h2 | ⟨g, cap, cur, e1, e2, e3, r⟩⟩ := h
  · exact ⟨h1, .inl h2⟩
  · exact ⟨h1, .inr ⟨g, cap, cur, e1, e2, (hb.block g (Array.getElem?_eq_some_iff.1 e3).1).trans e3, r⟩⟩

theorem one_cell_int (x : Int) : ∀ u ∈ [Value.int .i64 x], u.oneCell' = true := by intro u hu; simp at hu; subst hu; rfl

/-- What l01Of wants of a list of values that was appended to. -/
theorem owned_slice {W : World} {base R : Nat} {v : Nat → Nat} {s : Value} (r0 : 0 < R) (h : W.ownsRow base 2 1 s R (valsN v R)) :
    ∃ g cap, s = .slice (some ⟨g, 0, none⟩) R cap ∧ g < W.heap.size ∧ Hid (∀ j, j < R → W.cell? ⟨g, j, none⟩ = some (.int .i64 (v j : Int))) := by
  obtain ⟨k, rfl⟩ : ∃ k, R = k + 1 := ⟨R - 1, by omega⟩
  obtain ⟨g, cap, rfl⟩ := ownsRow_succ h
  exact ⟨g, cap, rfl, (h.lt g rfl).2, fun j hj => by rw [h.cellAt j (by omega)]; exact valsN_get v _ j hj⟩

end Go.Proofs.Ytcolaggkeekgoaa
