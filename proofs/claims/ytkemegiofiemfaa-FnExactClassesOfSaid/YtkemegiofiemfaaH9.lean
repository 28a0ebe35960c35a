/-
  Lists beside each other: one is marked, the others are as they were.
-/
import Derived.Test.YtkemegiofiemfaaM2
namespace Go.Proofs.Ytkemegiofiemfaa
open Go.RowKit
theorem Owns.ge {W : World} {b : Nat} {s : Value} {xs : List Int} (h : Owns W b s xs) : ∀ k, s.ownBlock = some k → b ≤ k := fun k hk => (World.ownsRow.lt h k hk).1
theorem Owns.keep {W W' : World} {b : Nat} {s : Value} {xs : List Int} {row : Option Nat} (h : Owns W b s xs) (hg : W.grownBy W' row) (hne : ∀ k, s.ownBlock = some k → some k ≠ row) : Owns W' b s xs := by
  refine World.ownsRow.kept h hg ?_
  cases hs : s.ownBlock with
  | none => exact .inl rfl
  | some k => exact .inr (hne k hs)
theorem below_markedF {B : Nat} {W0 W W' : World} {b : Nat} {s : Value} {xs : List (Int × Int)} (hN : Below B W0 W) (h : OwnsF W b s xs) (hg : W.grownBy W' s.ownBlock) (hB : B ≤ b) (hs : B ≤ W.heap.size) : Below B W0 W' :=
  hN.grown hg hs (fun j e => Nat.le_trans hB (h.ge j e))
end Go.Proofs.Ytkemegiofiemfaa
