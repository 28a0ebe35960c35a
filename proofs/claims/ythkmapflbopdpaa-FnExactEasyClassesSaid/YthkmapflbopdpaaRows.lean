/-
  No cell of these rows narrows 'for every input' (looked for: loops, veiled, ifaces, maps, wideKeys, modest, calm, conditions, laid).
  DERIVED. THE GIVEN ROWS OF THIS SEAT. 9 by the template 'for every input the law returns true; each argument reads behind the call as it read before'; 0 by the template 'total and deterministic' (their statements: YthkmapflbopdpaaTotals.lean).
  GIVEN WITH THE SEED: the statements are not yours to turn. If you find one false, say at which input.
  Laid BY PROGRAM, IN A SANDBOX (cutbox-rows.mjs): the forced cells as the released guide's own fill.sh prints them over the translation 8066b020e70b671e… (all of the seat's roots in one cut). By AI agents, Wed Nov 11 2026. No macro, syntax, notation, axiom, sorry.
-/
import Derived.Test.YthkmapflbopdpaaChecked
import GoSem.Claim
import GoSem.ClaimJoined
import GoSem.ClaimMapViews
import Derived.JoinedTies
import Derived.KernelRfl
namespace Go.Proofs.Ythkmapflbopdpaa
/- THE CELL 'sum', in the pinned program and in every row, IS THE sha256 OF THE DUMP (.gsa) THAT YthkmapflbopdpaaProg.lean LOADS. Nothing in Lean hashes anything: it is a label: what it is worth is what the hold of that sum in a sandbox is worth. -/
noncomputable def Try.pinned : Pinned := { name := "ythkmapflbopdpaa", sum := "8066b020e70b671ebf4e357320e7fa9c175e3b54d639c900c09aff490b022b17", checked := Try.checked }
namespace Rows
def none {H : Type} : Left H := { results := [], args := [] }

/-- 'laws.FnExactIsInstance': WHATEVER THE INPUT: true; the input reads as it did. -/
def fnExactIsInstanceSpec : ChangeSpec := { name := "fnExactIsInstance", fn := fun _ => fun
  | [d] => { results := [.lit (.bool true)], args := [d] }
  | _ => none }
def fnExactIsInstanceRow : OpenClaim := { program := "ythkmapflbopdpaa", sum := "8066b020e70b671ebf4e357320e7fa9c175e3b54d639c900c09aff490b022b17", func := "loop.example/g01323/laws.FnExactIsInstance", spec := "fnExactIsInstance", plainKeys := false, apart := false }
def FnExactIsInstanceSaid : Prop := fnExactIsInstanceRow.holds Try.pinned (OpenSpec.ofChange fnExactIsInstanceSpec)

/-- ITS FALSE NEIGHBOUR: 'it returns false'. Refute it at one input. -/
def fnExactIsInstanceWrong : ChangeSpec := { name := "fnExactIsInstance", fn := fun _ => fun
  | [d] => { results := [.lit (.bool false)], args := [d] }
  | _ => none }
def FnExactIsInstanceWrongFalsely : Prop := fnExactIsInstanceRow.holds Try.pinned (OpenSpec.ofChange fnExactIsInstanceWrong)

/-- 'laws.FnExactEasyRow': WHATEVER THE INPUT: true; the input reads as it did. -/
def fnExactEasyRowSpec : ChangeSpec := { name := "fnExactEasyRow", fn := fun _ => fun
  | [d] => { results := [.lit (.bool true)], args := [d] }
  | _ => none }
def fnExactEasyRowRow : OpenClaim := { program := "ythkmapflbopdpaa", sum := "8066b020e70b671ebf4e357320e7fa9c175e3b54d639c900c09aff490b022b17", func := "loop.example/g01323/laws.FnExactEasyRow", spec := "fnExactEasyRow", unfollowed := true, recurses := true, plainKeys := false, apart := false }
def FnExactEasyRowSaid : Prop := fnExactEasyRowRow.holds Try.pinned (OpenSpec.ofChange fnExactEasyRowSpec)

/-- ITS FALSE NEIGHBOUR: 'it returns false'. Refute it at one input. -/
def fnExactEasyRowWrong : ChangeSpec := { name := "fnExactEasyRow", fn := fun _ => fun
  | [d] => { results := [.lit (.bool false)], args := [d] }
  | _ => none }
def FnExactEasyRowWrongFalsely : Prop := fnExactEasyRowRow.holds Try.pinned (OpenSpec.ofChange fnExactEasyRowWrong)

/-- 'laws.FnExactEasyClasses': WHATEVER THE INPUT: true; the input reads as it did. -/
def fnExactEasyClassesSpec : ChangeSpec := { name := "fnExactEasyClasses", fn := fun _ => fun
  | [d] => { results := [.lit (.bool true)], args := [d] }
  | _ => none }
def fnExactEasyClassesRow : OpenClaim := { program := "ythkmapflbopdpaa", sum := "8066b020e70b671ebf4e357320e7fa9c175e3b54d639c900c09aff490b022b17", func := "loop.example/g01323/laws.FnExactEasyClasses", spec := "fnExactEasyClasses", unfollowed := true, recurses := true, plainKeys := false, apart := false }
def FnExactEasyClassesSaid : Prop := fnExactEasyClassesRow.holds Try.pinned (OpenSpec.ofChange fnExactEasyClassesSpec)

/-- ITS FALSE NEIGHBOUR: 'it returns false'. Refute it at one input. -/
def fnExactEasyClassesWrong : ChangeSpec := { name := "fnExactEasyClasses", fn := fun _ => fun
  | [d] => { results := [.lit (.bool false)], args := [d] }
  | _ => none }
def FnExactEasyClassesWrongFalsely : Prop := fnExactEasyClassesRow.holds Try.pinned (OpenSpec.ofChange fnExactEasyClassesWrong)

/-- 'laws.FnExactNarrowDomains': WHATEVER THE INPUT: true; the input reads as it did. -/
def fnExactNarrowDomainsSpec : ChangeSpec := { name := "fnExactNarrowDomains", fn := fun _ => fun
  | [d1, d2] => { results := [.lit (.bool true)], args := [d1, d2] }
  | _ => none }
def fnExactNarrowDomainsRow : OpenClaim := { program := "ythkmapflbopdpaa", sum := "8066b020e70b671ebf4e357320e7fa9c175e3b54d639c900c09aff490b022b17", func := "loop.example/g01323/laws.FnExactNarrowDomains", spec := "fnExactNarrowDomains", unfollowed := true, recurses := true, plainKeys := false, apart := false }
def FnExactNarrowDomainsSaid : Prop := fnExactNarrowDomainsRow.holds Try.pinned (OpenSpec.ofChange fnExactNarrowDomainsSpec)

/-- ITS FALSE NEIGHBOUR: 'it returns false'. Refute it at one input. -/
def fnExactNarrowDomainsWrong : ChangeSpec := { name := "fnExactNarrowDomains", fn := fun _ => fun
  | [d1, d2] => { results := [.lit (.bool false)], args := [d1, d2] }
  | _ => none }
def FnExactNarrowDomainsWrongFalsely : Prop := fnExactNarrowDomainsRow.holds Try.pinned (OpenSpec.ofChange fnExactNarrowDomainsWrong)

/-- 'laws.FnExactFlipInstance': WHATEVER THE INPUT: true; the input reads as it did. -/
def fnExactFlipInstanceSpec : ChangeSpec := { name := "fnExactFlipInstance", fn := fun _ => fun
  | [d] => { results := [.lit (.bool true)], args := [d] }
  | _ => none }
def fnExactFlipInstanceRow : OpenClaim := { program := "ythkmapflbopdpaa", sum := "8066b020e70b671ebf4e357320e7fa9c175e3b54d639c900c09aff490b022b17", func := "loop.example/g01323/laws.FnExactFlipInstance", spec := "fnExactFlipInstance", unfollowed := true, recurses := true, plainKeys := false, apart := false }
def FnExactFlipInstanceSaid : Prop := fnExactFlipInstanceRow.holds Try.pinned (OpenSpec.ofChange fnExactFlipInstanceSpec)

/-- ITS FALSE NEIGHBOUR: 'it returns false'. Refute it at one input. -/
def fnExactFlipInstanceWrong : ChangeSpec := { name := "fnExactFlipInstance", fn := fun _ => fun
  | [d] => { results := [.lit (.bool false)], args := [d] }
  | _ => none }
def FnExactFlipInstanceWrongFalsely : Prop := fnExactFlipInstanceRow.holds Try.pinned (OpenSpec.ofChange fnExactFlipInstanceWrong)

/-- 'laws.FnExactFixVar': WHATEVER THE INPUT: true; the input reads as it did. -/
def fnExactFixVarSpec : ChangeSpec := { name := "fnExactFixVar", fn := fun _ => fun
  | [d1, d2, d3] => { results := [.lit (.bool true)], args := [d1, d2, d3] }
  | _ => none }
def fnExactFixVarRow : OpenClaim := { program := "ythkmapflbopdpaa", sum := "8066b020e70b671ebf4e357320e7fa9c175e3b54d639c900c09aff490b022b17", func := "loop.example/g01323/laws.FnExactFixVar", spec := "fnExactFixVar", plainKeys := false, apart := false }
def FnExactFixVarSaid : Prop := fnExactFixVarRow.holds Try.pinned (OpenSpec.ofChange fnExactFixVarSpec)

/-- ITS FALSE NEIGHBOUR: 'it returns false'. Refute it at one input. -/
def fnExactFixVarWrong : ChangeSpec := { name := "fnExactFixVar", fn := fun _ => fun
  | [d1, d2, d3] => { results := [.lit (.bool false)], args := [d1, d2, d3] }
  | _ => none }
def FnExactFixVarWrongFalsely : Prop := fnExactFixVarRow.holds Try.pinned (OpenSpec.ofChange fnExactFixVarWrong)

/-- 'laws.FnExactSatisfiedBy': WHATEVER THE INPUT: true; the input reads as it did. -/
def fnExactSatisfiedBySpec : ChangeSpec := { name := "fnExactSatisfiedBy", fn := fun _ => fun
  | [d1, d2] => { results := [.lit (.bool true)], args := [d1, d2] }
  | _ => none }
def fnExactSatisfiedByRow : OpenClaim := { program := "ythkmapflbopdpaa", sum := "8066b020e70b671ebf4e357320e7fa9c175e3b54d639c900c09aff490b022b17", func := "loop.example/g01323/laws.FnExactSatisfiedBy", spec := "fnExactSatisfiedBy", unfollowed := true, recurses := true, plainKeys := false, apart := false }
def FnExactSatisfiedBySaid : Prop := fnExactSatisfiedByRow.holds Try.pinned (OpenSpec.ofChange fnExactSatisfiedBySpec)

/-- ITS FALSE NEIGHBOUR: 'it returns false'. Refute it at one input. -/
def fnExactSatisfiedByWrong : ChangeSpec := { name := "fnExactSatisfiedBy", fn := fun _ => fun
  | [d1, d2] => { results := [.lit (.bool false)], args := [d1, d2] }
  | _ => none }
def FnExactSatisfiedByWrongFalsely : Prop := fnExactSatisfiedByRow.holds Try.pinned (OpenSpec.ofChange fnExactSatisfiedByWrong)

/-- 'laws.FnExactCloneNames': WHATEVER THE INPUT: true; the input reads as it did. -/
def fnExactCloneNamesSpec : ChangeSpec := { name := "fnExactCloneNames", fn := fun _ => fun
  | [] => { results := [.lit (.bool true)], args := [] }
  | _ => none }
def fnExactCloneNamesRow : OpenClaim := { program := "ythkmapflbopdpaa", sum := "8066b020e70b671ebf4e357320e7fa9c175e3b54d639c900c09aff490b022b17", func := "loop.example/g01323/laws.FnExactCloneNames", spec := "fnExactCloneNames", recurses := true, plainKeys := false, apart := false }
def FnExactCloneNamesSaid : Prop := fnExactCloneNamesRow.holds Try.pinned (OpenSpec.ofChange fnExactCloneNamesSpec)

/-- ITS FALSE NEIGHBOUR: 'it returns false'. Refute it at one input. -/
def fnExactCloneNamesWrong : ChangeSpec := { name := "fnExactCloneNames", fn := fun _ => fun
  | [] => { results := [.lit (.bool false)], args := [] }
  | _ => none }
def FnExactCloneNamesWrongFalsely : Prop := fnExactCloneNamesRow.holds Try.pinned (OpenSpec.ofChange fnExactCloneNamesWrong)

/-- 'laws.FnExactBasesOf': WHATEVER THE INPUT: true; the input reads as it did. -/
def fnExactBasesOfSpec : ChangeSpec := { name := "fnExactBasesOf", fn := fun _ => fun
  | [d] => { results := [.lit (.bool true)], args := [d] }
  | _ => none }
def fnExactBasesOfRow : OpenClaim := { program := "ythkmapflbopdpaa", sum := "8066b020e70b671ebf4e357320e7fa9c175e3b54d639c900c09aff490b022b17", func := "loop.example/g01323/laws.FnExactBasesOf", spec := "fnExactBasesOf", unfollowed := true, recurses := true, plainKeys := false, apart := false }
def FnExactBasesOfSaid : Prop := fnExactBasesOfRow.holds Try.pinned (OpenSpec.ofChange fnExactBasesOfSpec)

/-- ITS FALSE NEIGHBOUR: 'it returns false'. Refute it at one input. -/
def fnExactBasesOfWrong : ChangeSpec := { name := "fnExactBasesOf", fn := fun _ => fun
  | [d] => { results := [.lit (.bool false)], args := [d] }
  | _ => none }
def FnExactBasesOfWrongFalsely : Prop := fnExactBasesOfRow.holds Try.pinned (OpenSpec.ofChange fnExactBasesOfWrong)

/- THE SECOND FORM. 'bulk': how many values and letters a reading holds, each counted each time it is reached (what is shared counts as often as it is met; a slice's spare places count too). A statement '..UptoSaid' is the law's where the arguments, and the package variables that the reading takes, are together of bulk at most 1048576: NARROWER than '..Said'. Prove '..Said' where nothing that the law and all that it calls make is longer than what came in: it says more and counts as full. Else prove '..UptoSaid'. A law counts once. -/
mutual
def uptoBulk {H : Type} : DataW H → Nat
  | .lit (.string bytes) => bytes.length + 1
  | .lit _ => 1
  | .nil => 1
  | .ptr d => uptoBulk d + 1
  | .slice elems spare => uptoBulkAll elems + uptoBulkAll spare + 1
  | .agg parts => uptoBulkAll parts + 1
  | .iface _ d => uptoBulk d + 1
  | .map entries => uptoBulkEntries entries + 1
  | .held _ => 1
def uptoBulkAll {H : Type} : List (DataW H) → Nat
  | [] => 0
  | d :: r => uptoBulk d + uptoBulkAll r
def uptoBulkEntries {H : Type} : List (Lit × DataW H) → Nat
  | [] => 0
  | x :: r => uptoBulkEntry x + uptoBulkEntries r
def uptoBulkEntry {H : Type} : Lit × DataW H → Nat
  | (.string bytes, d) => bytes.length + uptoBulk d + 1
  | (_, d) => uptoBulk d + 1
 end
def uptoSmall : (H : Type) → List (DataW H) → Bool := fun _ ds => decide (uptoBulkAll ds ≤ 1048576)
def OpenSpec.upto (s : _root_.Go.ChangeSpec) : _root_.Go.OpenSpec := { _root_.Go.OpenSpec.ofChange s with cond := some uptoSmall }

/-- 'laws.FnExactIsInstance', WHERE WHAT IT READS IS OF BULK AT MOST 1048576: true; the input reads as it did. -/
def fnExactIsInstanceUptoRow : OpenClaim := { program := "ythkmapflbopdpaa", sum := "8066b020e70b671ebf4e357320e7fa9c175e3b54d639c900c09aff490b022b17", func := "loop.example/g01323/laws.FnExactIsInstance", spec := "fnExactIsInstance", plainKeys := false, apart := false, narrowed := true }
def FnExactIsInstanceUptoSaid : Prop := fnExactIsInstanceUptoRow.holds Try.pinned (OpenSpec.upto fnExactIsInstanceSpec)

/-- 'laws.FnExactEasyRow', WHERE WHAT IT READS IS OF BULK AT MOST 1048576: true; the input reads as it did. -/
def fnExactEasyRowUptoRow : OpenClaim := { program := "ythkmapflbopdpaa", sum := "8066b020e70b671ebf4e357320e7fa9c175e3b54d639c900c09aff490b022b17", func := "loop.example/g01323/laws.FnExactEasyRow", spec := "fnExactEasyRow", unfollowed := true, recurses := true, plainKeys := false, apart := false, narrowed := true }
def FnExactEasyRowUptoSaid : Prop := fnExactEasyRowUptoRow.holds Try.pinned (OpenSpec.upto fnExactEasyRowSpec)

/-- 'laws.FnExactEasyClasses', WHERE WHAT IT READS IS OF BULK AT MOST 1048576: true; the input reads as it did. -/
def fnExactEasyClassesUptoRow : OpenClaim := { program := "ythkmapflbopdpaa", sum := "8066b020e70b671ebf4e357320e7fa9c175e3b54d639c900c09aff490b022b17", func := "loop.example/g01323/laws.FnExactEasyClasses", spec := "fnExactEasyClasses", unfollowed := true, recurses := true, plainKeys := false, apart := false, narrowed := true }
def FnExactEasyClassesUptoSaid : Prop := fnExactEasyClassesUptoRow.holds Try.pinned (OpenSpec.upto fnExactEasyClassesSpec)

/-- 'laws.FnExactNarrowDomains', WHERE WHAT IT READS IS OF BULK AT MOST 1048576: true; the input reads as it did. -/
def fnExactNarrowDomainsUptoRow : OpenClaim := { program := "ythkmapflbopdpaa", sum := "8066b020e70b671ebf4e357320e7fa9c175e3b54d639c900c09aff490b022b17", func := "loop.example/g01323/laws.FnExactNarrowDomains", spec := "fnExactNarrowDomains", unfollowed := true, recurses := true, plainKeys := false, apart := false, narrowed := true }
def FnExactNarrowDomainsUptoSaid : Prop := fnExactNarrowDomainsUptoRow.holds Try.pinned (OpenSpec.upto fnExactNarrowDomainsSpec)

/-- 'laws.FnExactFlipInstance', WHERE WHAT IT READS IS OF BULK AT MOST 1048576: true; the input reads as it did. -/
def fnExactFlipInstanceUptoRow : OpenClaim := { program := "ythkmapflbopdpaa", sum := "8066b020e70b671ebf4e357320e7fa9c175e3b54d639c900c09aff490b022b17", func := "loop.example/g01323/laws.FnExactFlipInstance", spec := "fnExactFlipInstance", unfollowed := true, recurses := true, plainKeys := false, apart := false, narrowed := true }
def FnExactFlipInstanceUptoSaid : Prop := fnExactFlipInstanceUptoRow.holds Try.pinned (OpenSpec.upto fnExactFlipInstanceSpec)

/-- 'laws.FnExactFixVar', WHERE WHAT IT READS IS OF BULK AT MOST 1048576: true; the input reads as it did. -/
def fnExactFixVarUptoRow : OpenClaim := { program := "ythkmapflbopdpaa", sum := "8066b020e70b671ebf4e357320e7fa9c175e3b54d639c900c09aff490b022b17", func := "loop.example/g01323/laws.FnExactFixVar", spec := "fnExactFixVar", plainKeys := false, apart := false, narrowed := true }
def FnExactFixVarUptoSaid : Prop := fnExactFixVarUptoRow.holds Try.pinned (OpenSpec.upto fnExactFixVarSpec)

/-- 'laws.FnExactSatisfiedBy', WHERE WHAT IT READS IS OF BULK AT MOST 1048576: true; the input reads as it did. -/
def fnExactSatisfiedByUptoRow : OpenClaim := { program := "ythkmapflbopdpaa", sum := "8066b020e70b671ebf4e357320e7fa9c175e3b54d639c900c09aff490b022b17", func := "loop.example/g01323/laws.FnExactSatisfiedBy", spec := "fnExactSatisfiedBy", unfollowed := true, recurses := true, plainKeys := false, apart := false, narrowed := true }
def FnExactSatisfiedByUptoSaid : Prop := fnExactSatisfiedByUptoRow.holds Try.pinned (OpenSpec.upto fnExactSatisfiedBySpec)

/-- 'laws.FnExactCloneNames', WHERE WHAT IT READS IS OF BULK AT MOST 1048576: true; the input reads as it did. -/
def fnExactCloneNamesUptoRow : OpenClaim := { program := "ythkmapflbopdpaa", sum := "8066b020e70b671ebf4e357320e7fa9c175e3b54d639c900c09aff490b022b17", func := "loop.example/g01323/laws.FnExactCloneNames", spec := "fnExactCloneNames", recurses := true, plainKeys := false, apart := false, narrowed := true }
def FnExactCloneNamesUptoSaid : Prop := fnExactCloneNamesUptoRow.holds Try.pinned (OpenSpec.upto fnExactCloneNamesSpec)

/-- 'laws.FnExactBasesOf', WHERE WHAT IT READS IS OF BULK AT MOST 1048576: true; the input reads as it did. -/
def fnExactBasesOfUptoRow : OpenClaim := { program := "ythkmapflbopdpaa", sum := "8066b020e70b671ebf4e357320e7fa9c175e3b54d639c900c09aff490b022b17", func := "loop.example/g01323/laws.FnExactBasesOf", spec := "fnExactBasesOf", unfollowed := true, recurses := true, plainKeys := false, apart := false, narrowed := true }
def FnExactBasesOfUptoSaid : Prop := fnExactBasesOfUptoRow.holds Try.pinned (OpenSpec.upto fnExactBasesOfSpec)

end Rows
end Go.Proofs.Ythkmapflbopdpaa
