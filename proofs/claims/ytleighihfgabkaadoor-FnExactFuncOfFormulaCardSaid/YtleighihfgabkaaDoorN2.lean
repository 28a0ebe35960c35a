/-
  The closures of PutFuncs; haveOneArity.
-/
import Derived.Test.YtleighihfgabkaaDoorN1
import Derived.Test.YtleighihfgabkaaDoorL4
import Derived.Test.YtleighihfgabkaaDoorC4
namespace Go.Proofs.YtleighihfgabkaaDoor
open Go.RowKit
set_option linter.unusedVariables false

theorem hold3 {W w' w : World} {a b c d : Addr} {u v y z : Value} (hb : Below W.heap.size W w') (h : ((W.cell? a = some u ∧ W.cell? b = some v) ∧ (W.cell? c = some y ∧ W.cell? d = some z)) ∧ Below w.heap.size w W) :
    ((w'.cell? a = some u ∧ w'.cell? b = some v) ∧ (w'.cell? c = some y ∧ w'.cell? d = some z)) ∧ Below w.heap.size w w' := ⟨⟨⟨kc hb h.1.1.1, kc hb h.1.1.2⟩, kc hb h.1.2.1, kc hb h.1.2.2⟩, bthen h.2 hb⟩

/-- Where the values of the functions of a list lie. -/
def putRow (xs : List (Int × Int)) (m r : Nat) : Nat := sumN (fun i => bitN (fget xs i).2.toNat r) m
/-- The function that is made by putting functions into a function. -/
def putN (xs : List (Int × Int)) (m x r : Nat) : Nat := bitN x (putRow xs m r)
theorem putRow_lt (xs : List (Int × Int)) (m r : Nat) (hm : m ≤ 4) : putRow xs m r < 16 := by
  have h1 := sumN_lt (fun i => bitN (fget xs i).2.toNat r) m (fun i _ => bitN_le _ _)
  have h2 : (2 : Nat) ^ m ≤ 2 ^ 4 := Nat.pow_le_pow_right (by decide) hm
  unfold putRow
  omega
theorem fok_nat {p : Int × Int} (h : isF p.1 p.2 = true) : p.2 = (p.2.toNat : Int) ∧ p.2.toNat < 2 ^ 62 := by
  obtain ⟨x, R, e, ok⟩ := fok h
  have := ok.hx
  rw [e]
  simp
  omega

/-- The functions below j have the arity of the first one. -/
def oneTo (xs : List (Int × Int)) (j : Nat) : Bool := allLt j fun i => (fget xs i).1 == (fget xs 0).1
theorem oneTo_succ (xs : List (Int × Int)) (j : Nat) : oneTo xs (j + 1) = (oneTo xs j && (fget xs j).1 == (fget xs 0).1) := allLt_succ _ _
theorem oneTo_false {xs : List (Int × Int)} {k m : Nat} (hk : k < m) (h : ((fget xs k).1 == (fget xs 0).1) = false) : oneTo xs m = false := by
  cases hc : oneTo xs m
  · rfl
  · have := allLt_iff.1 hc k hk
    rw [h] at this
    cases this

end Go.Proofs.YtleighihfgabkaaDoor
