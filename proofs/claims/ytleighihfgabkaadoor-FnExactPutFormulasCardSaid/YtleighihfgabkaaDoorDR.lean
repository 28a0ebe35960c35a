/-
  The variable of the wrong text: what the row's condition gives of it.
-/
import Derived.Test.YtleighihfgabkaaDoorPF1
import Derived.Below
import Derived.RowKitTokens
import Derived.LaidLaws
import Derived.LaidHandle
import Derived.MakeChecks
import Derived.Stop.LaidErr
namespace Go.Proofs.YtleighihfgabkaaDoor
open Go.RowKit Go.ChangeShapes
theorem gErr : Tryd.prog.globalNamed "loop.example/g01323/impl.errWrongText" = some 0 := by kernel_rfl
theorem gErrType : (Tryd.prog.globals[0]?).map (·.type) = some 102 := by kernel_rfl
theorem starErr : "*" ++ "errors.errorString" = "*errors.errorString" := by decide
theorem rowErr (u : TypeId) (h : Tryd.prog.typeName? 3 u = some "*errors.errorString") : u = 163 :=
  typeName_ptr_named (nm := "errors.errorString") (by rw [starErr]; kernel_rfl) (by kernel_rfl) (by decide) u (by rw [starErr]; exact h)
theorem cellsErr : Tryd.prog.cellsOf 186 = 1 := by kernel_rfl
theorem cellsStr : Tryd.prog.cellsOf 9 = 1 := by kernel_rfl
theorem err_of_laid {W : World} (h : laidMetH Tryd.prog [("loop.example/g01323/impl.errWrongText", Rows.laid_loop_example_g01323_impl_errWrongText)] W) : ∃ a, W.var? Tryd.prog "loop.example/g01323/impl.errWrongText" = some #[errV a] ∧ ErrAt W a := by
  rw [MakeChecks.laidMetH_plain _ _ _ (by kernel_rfl)] at h
  obtain ⟨a, s, hv, _, _, _⟩ := laid_sentinel h gErr gErrType Tryd.underlying102 rowErr Tryd.underlying163 Tryd.underlying186 rfl rfl Tryd.underlying9 cellsErr cellsStr
  exact ⟨a, hv, by unfold ErrAt errV; simpa using World.var?_cell gErr hv 0⟩
theorem var?_below {P : Program} {W W' : World} {n : String} {cs : Array Value} (h : W.var? P n = some cs) (hb : Below W.heap.size W W') : W'.var? P n = some cs := by
  unfold World.var? at h ⊢
  cases hg : P.globalNamed n with
  | none => simp [hg] at h
  | some g =>
    simp only [hg, Option.bind_some] at h ⊢
    have hlt : g < W.heap.size := by
      rcases Nat.lt_or_ge g W.heap.size with h' | h'
      · exact h'
      · simp [Array.getElem?_eq_none h'] at h
    rw [hb.block g hlt]
    exact h
end Go.Proofs.YtleighihfgabkaaDoor
