/-
  No cell of these rows narrows 'for every input' (looked for: loops, veiled, ifaces, maps, wideKeys, modest, calm, conditions, laid).
  DERIVED. THE GIVEN ROWS OF THIS SEAT. 7 by the template 'for every input the law returns true; each argument reads behind the call as it read before'; 0 by the template 'total and deterministic' (their statements: YthjgkgknlecjlaaTotals.lean).
  GIVEN WITH THE SEED: the statements are not yours to turn. If you find one false, say at which input.
  Laid BY PROGRAM, IN A SANDBOX (cutbox-rows.mjs): the forced cells as the released guide's own fill.sh prints them over the translation 24b96758cead21c7… (all of the seat's roots in one cut). By AI agents, Wed Nov 11 2026. No macro, syntax, notation, axiom, sorry.
-/
import Derived.Test.YthjgkgknlecjlaaChecked
import GoSem.Claim
import GoSem.ClaimJoined
import GoSem.ClaimMapViews
import Derived.JoinedTies
import Derived.KernelRfl
namespace Go.Proofs.Ythjgkgknlecjlaa
/- THE CELL 'sum', in the pinned program and in every row, IS THE sha256 OF THE DUMP (.gsa) THAT YthjgkgknlecjlaaProg.lean LOADS. Nothing in Lean hashes anything: it is a label: what it is worth is what the hold of that sum in a sandbox is worth. -/
noncomputable def Try.pinned : Pinned := { name := "ythjgkgknlecjlaa", sum := "24b96758cead21c7b1e6fd259ebc3a6bd600f3e53abe344683ac66357c33461c", checked := Try.checked }
namespace Rows
def none {H : Type} : Left H := { results := [], args := [] }

/-- 'laws.FnExactSeparatingDegree': WHATEVER THE INPUT: true; the input reads as it did. -/
def fnExactSeparatingDegreeSpec : ChangeSpec := { name := "fnExactSeparatingDegree", fn := fun _ => fun
  | [d1, d2] => { results := [.lit (.bool true)], args := [d1, d2] }
  | _ => none }
def fnExactSeparatingDegreeRow : OpenClaim := { program := "ythjgkgknlecjlaa", sum := "24b96758cead21c7b1e6fd259ebc3a6bd600f3e53abe344683ac66357c33461c", func := "loop.example/g01323/laws.FnExactSeparatingDegree", spec := "fnExactSeparatingDegree", unfollowed := true, recurses := true, plainKeys := false, apart := false }
def FnExactSeparatingDegreeSaid : Prop := fnExactSeparatingDegreeRow.holds Try.pinned (OpenSpec.ofChange fnExactSeparatingDegreeSpec)

/-- ITS FALSE NEIGHBOUR: 'it returns false'. Refute it at one input. -/
def fnExactSeparatingDegreeWrong : ChangeSpec := { name := "fnExactSeparatingDegree", fn := fun _ => fun
  | [d1, d2] => { results := [.lit (.bool false)], args := [d1, d2] }
  | _ => none }
def FnExactSeparatingDegreeWrongFalsely : Prop := fnExactSeparatingDegreeRow.holds Try.pinned (OpenSpec.ofChange fnExactSeparatingDegreeWrong)

/-- 'laws.FnExactIsDisjunction': WHATEVER THE INPUT: true; the input reads as it did. -/
def fnExactIsDisjunctionSpec : ChangeSpec := { name := "fnExactIsDisjunction", fn := fun _ => fun
  | [d] => { results := [.lit (.bool true)], args := [d] }
  | _ => none }
def fnExactIsDisjunctionRow : OpenClaim := { program := "ythjgkgknlecjlaa", sum := "24b96758cead21c7b1e6fd259ebc3a6bd600f3e53abe344683ac66357c33461c", func := "loop.example/g01323/laws.FnExactIsDisjunction", spec := "fnExactIsDisjunction", unfollowed := true, recurses := true, plainKeys := false, apart := false }
def FnExactIsDisjunctionSaid : Prop := fnExactIsDisjunctionRow.holds Try.pinned (OpenSpec.ofChange fnExactIsDisjunctionSpec)

/-- ITS FALSE NEIGHBOUR: 'it returns false'. Refute it at one input. -/
def fnExactIsDisjunctionWrong : ChangeSpec := { name := "fnExactIsDisjunction", fn := fun _ => fun
  | [d] => { results := [.lit (.bool false)], args := [d] }
  | _ => none }
def FnExactIsDisjunctionWrongFalsely : Prop := fnExactIsDisjunctionRow.holds Try.pinned (OpenSpec.ofChange fnExactIsDisjunctionWrong)

/-- 'laws.FnExactIsConjunction': WHATEVER THE INPUT: true; the input reads as it did. -/
def fnExactIsConjunctionSpec : ChangeSpec := { name := "fnExactIsConjunction", fn := fun _ => fun
  | [d] => { results := [.lit (.bool true)], args := [d] }
  | _ => none }
def fnExactIsConjunctionRow : OpenClaim := { program := "ythjgkgknlecjlaa", sum := "24b96758cead21c7b1e6fd259ebc3a6bd600f3e53abe344683ac66357c33461c", func := "loop.example/g01323/laws.FnExactIsConjunction", spec := "fnExactIsConjunction", unfollowed := true, recurses := true, plainKeys := false, apart := false }
def FnExactIsConjunctionSaid : Prop := fnExactIsConjunctionRow.holds Try.pinned (OpenSpec.ofChange fnExactIsConjunctionSpec)

/-- ITS FALSE NEIGHBOUR: 'it returns false'. Refute it at one input. -/
def fnExactIsConjunctionWrong : ChangeSpec := { name := "fnExactIsConjunction", fn := fun _ => fun
  | [d] => { results := [.lit (.bool false)], args := [d] }
  | _ => none }
def FnExactIsConjunctionWrongFalsely : Prop := fnExactIsConjunctionRow.holds Try.pinned (OpenSpec.ofChange fnExactIsConjunctionWrong)

/-- 'laws.FnExactIsUnary': WHATEVER THE INPUT: true; the input reads as it did. -/
def fnExactIsUnarySpec : ChangeSpec := { name := "fnExactIsUnary", fn := fun _ => fun
  | [d] => { results := [.lit (.bool true)], args := [d] }
  | _ => none }
def fnExactIsUnaryRow : OpenClaim := { program := "ythjgkgknlecjlaa", sum := "24b96758cead21c7b1e6fd259ebc3a6bd600f3e53abe344683ac66357c33461c", func := "loop.example/g01323/laws.FnExactIsUnary", spec := "fnExactIsUnary", unfollowed := true, recurses := true, plainKeys := false, apart := false }
def FnExactIsUnarySaid : Prop := fnExactIsUnaryRow.holds Try.pinned (OpenSpec.ofChange fnExactIsUnarySpec)

/-- ITS FALSE NEIGHBOUR: 'it returns false'. Refute it at one input. -/
def fnExactIsUnaryWrong : ChangeSpec := { name := "fnExactIsUnary", fn := fun _ => fun
  | [d] => { results := [.lit (.bool false)], args := [d] }
  | _ => none }
def FnExactIsUnaryWrongFalsely : Prop := fnExactIsUnaryRow.holds Try.pinned (OpenSpec.ofChange fnExactIsUnaryWrong)

/-- 'laws.FnExactCloneName': WHATEVER THE INPUT: true; the input reads as it did. -/
def fnExactCloneNameSpec : ChangeSpec := { name := "fnExactCloneName", fn := fun _ => fun
  | [d] => { results := [.lit (.bool true)], args := [d] }
  | _ => none }
def fnExactCloneNameRow : OpenClaim := { program := "ythjgkgknlecjlaa", sum := "24b96758cead21c7b1e6fd259ebc3a6bd600f3e53abe344683ac66357c33461c", func := "loop.example/g01323/laws.FnExactCloneName", spec := "fnExactCloneName", unfollowed := true, recurses := true, plainKeys := false, apart := false }
def FnExactCloneNameSaid : Prop := fnExactCloneNameRow.holds Try.pinned (OpenSpec.ofChange fnExactCloneNameSpec)

/-- ITS FALSE NEIGHBOUR: 'it returns false'. Refute it at one input. -/
def fnExactCloneNameWrong : ChangeSpec := { name := "fnExactCloneName", fn := fun _ => fun
  | [d] => { results := [.lit (.bool false)], args := [d] }
  | _ => none }
def FnExactCloneNameWrongFalsely : Prop := fnExactCloneNameRow.holds Try.pinned (OpenSpec.ofChange fnExactCloneNameWrong)

/-- 'laws.FnExactCloneNames': WHATEVER THE INPUT: true; the input reads as it did. -/
def fnExactCloneNamesSpec : ChangeSpec := { name := "fnExactCloneNames", fn := fun _ => fun
  | [] => { results := [.lit (.bool true)], args := [] }
  | _ => none }
def fnExactCloneNamesRow : OpenClaim := { program := "ythjgkgknlecjlaa", sum := "24b96758cead21c7b1e6fd259ebc3a6bd600f3e53abe344683ac66357c33461c", func := "loop.example/g01323/laws.FnExactCloneNames", spec := "fnExactCloneNames", recurses := true, plainKeys := false, apart := false }
def FnExactCloneNamesSaid : Prop := fnExactCloneNamesRow.holds Try.pinned (OpenSpec.ofChange fnExactCloneNamesSpec)

/-- ITS FALSE NEIGHBOUR: 'it returns false'. Refute it at one input. -/
def fnExactCloneNamesWrong : ChangeSpec := { name := "fnExactCloneNames", fn := fun _ => fun
  | [] => { results := [.lit (.bool false)], args := [] }
  | _ => none }
def FnExactCloneNamesWrongFalsely : Prop := fnExactCloneNamesRow.holds Try.pinned (OpenSpec.ofChange fnExactCloneNamesWrong)

/-- 'laws.FnExactBasesOf': WHATEVER THE INPUT: true; the input reads as it did. -/
def fnExactBasesOfSpec : ChangeSpec := { name := "fnExactBasesOf", fn := fun _ => fun
  | [d] => { results := [.lit (.bool true)], args := [d] }
  | _ => none }
def fnExactBasesOfRow : OpenClaim := { program := "ythjgkgknlecjlaa", sum := "24b96758cead21c7b1e6fd259ebc3a6bd600f3e53abe344683ac66357c33461c", func := "loop.example/g01323/laws.FnExactBasesOf", spec := "fnExactBasesOf", unfollowed := true, recurses := true, plainKeys := false, apart := false }
def FnExactBasesOfSaid : Prop := fnExactBasesOfRow.holds Try.pinned (OpenSpec.ofChange fnExactBasesOfSpec)

/-- ITS FALSE NEIGHBOUR: 'it returns false'. Refute it at one input. -/
def fnExactBasesOfWrong : ChangeSpec := { name := "fnExactBasesOf", fn := fun _ => fun
  | [d] => { results := [.lit (.bool false)], args := [d] }
  | _ => none }
def FnExactBasesOfWrongFalsely : Prop := fnExactBasesOfRow.holds Try.pinned (OpenSpec.ofChange fnExactBasesOfWrong)

/- THE SECOND FORM. 'bulk': how many values and letters a reading holds, each counted each time it is reached (what is shared counts as often as it is met; a slice's spare places count too). A statement '..UptoSaid' is the law's where the arguments, and the package variables that the reading takes, are together of bulk at most 1048576: NARROWER than '..Said'. Prove '..Said' where nothing that the law and all that it calls make is longer than what came in: it says more and counts as full. Else prove '..UptoSaid'. A law counts once. -/
mutual
def uptoBulk {H : Type} : DataW H → Nat
  | .lit (.string bytes) => bytes.length + 1
  | .lit _ => 1
  | .nil => 1
  | .ptr d => uptoBulk d + 1
  | .slice elems spare => uptoBulkAll elems + uptoBulkAll spare + 1
  | .agg parts => uptoBulkAll parts + 1
  | .iface _ d => uptoBulk d + 1
  | .map entries => uptoBulkEntries entries + 1
  | .held _ => 1
def uptoBulkAll {H : Type} : List (DataW H) → Nat
  | [] => 0
  | d :: r => uptoBulk d + uptoBulkAll r
def uptoBulkEntries {H : Type} : List (Lit × DataW H) → Nat
  | [] => 0
  | x :: r => uptoBulkEntry x + uptoBulkEntries r
def uptoBulkEntry {H : Type} : Lit × DataW H → Nat
  | (.string bytes, d) => bytes.length + uptoBulk d + 1
  | (_, d) => uptoBulk d + 1
 end
def uptoSmall : (H : Type) → List (DataW H) → Bool := fun _ ds => decide (uptoBulkAll ds ≤ 1048576)
def OpenSpec.upto (s : _root_.Go.ChangeSpec) : _root_.Go.OpenSpec := { _root_.Go.OpenSpec.ofChange s with cond := some uptoSmall }

/-- 'laws.FnExactSeparatingDegree', WHERE WHAT IT READS IS OF BULK AT MOST 1048576: true; the input reads as it did. -/
def fnExactSeparatingDegreeUptoRow : OpenClaim := { program := "ythjgkgknlecjlaa", sum := "24b96758cead21c7b1e6fd259ebc3a6bd600f3e53abe344683ac66357c33461c", func := "loop.example/g01323/laws.FnExactSeparatingDegree", spec := "fnExactSeparatingDegree", unfollowed := true, recurses := true, plainKeys := false, apart := false, narrowed := true }
def FnExactSeparatingDegreeUptoSaid : Prop := fnExactSeparatingDegreeUptoRow.holds Try.pinned (OpenSpec.upto fnExactSeparatingDegreeSpec)

/-- 'laws.FnExactIsDisjunction', WHERE WHAT IT READS IS OF BULK AT MOST 1048576: true; the input reads as it did. -/
def fnExactIsDisjunctionUptoRow : OpenClaim := { program := "ythjgkgknlecjlaa", sum := "24b96758cead21c7b1e6fd259ebc3a6bd600f3e53abe344683ac66357c33461c", func := "loop.example/g01323/laws.FnExactIsDisjunction", spec := "fnExactIsDisjunction", unfollowed := true, recurses := true, plainKeys := false, apart := false, narrowed := true }
def FnExactIsDisjunctionUptoSaid : Prop := fnExactIsDisjunctionUptoRow.holds Try.pinned (OpenSpec.upto fnExactIsDisjunctionSpec)

/-- 'laws.FnExactIsConjunction', WHERE WHAT IT READS IS OF BULK AT MOST 1048576: true; the input reads as it did. -/
def fnExactIsConjunctionUptoRow : OpenClaim := { program := "ythjgkgknlecjlaa", sum := "24b96758cead21c7b1e6fd259ebc3a6bd600f3e53abe344683ac66357c33461c", func := "loop.example/g01323/laws.FnExactIsConjunction", spec := "fnExactIsConjunction", unfollowed := true, recurses := true, plainKeys := false, apart := false, narrowed := true }
def FnExactIsConjunctionUptoSaid : Prop := fnExactIsConjunctionUptoRow.holds Try.pinned (OpenSpec.upto fnExactIsConjunctionSpec)

/-- 'laws.FnExactIsUnary', WHERE WHAT IT READS IS OF BULK AT MOST 1048576: true; the input reads as it did. -/
def fnExactIsUnaryUptoRow : OpenClaim := { program := "ythjgkgknlecjlaa", sum := "24b96758cead21c7b1e6fd259ebc3a6bd600f3e53abe344683ac66357c33461c", func := "loop.example/g01323/laws.FnExactIsUnary", spec := "fnExactIsUnary", unfollowed := true, recurses := true, plainKeys := false, apart := false, narrowed := true }
def FnExactIsUnaryUptoSaid : Prop := fnExactIsUnaryUptoRow.holds Try.pinned (OpenSpec.upto fnExactIsUnarySpec)

/-- 'laws.FnExactCloneName', WHERE WHAT IT READS IS OF BULK AT MOST 1048576: true; the input reads as it did. -/
def fnExactCloneNameUptoRow : OpenClaim := { program := "ythjgkgknlecjlaa", sum := "24b96758cead21c7b1e6fd259ebc3a6bd600f3e53abe344683ac66357c33461c", func := "loop.example/g01323/laws.FnExactCloneName", spec := "fnExactCloneName", unfollowed := true, recurses := true, plainKeys := false, apart := false, narrowed := true }
def FnExactCloneNameUptoSaid : Prop := fnExactCloneNameUptoRow.holds Try.pinned (OpenSpec.upto fnExactCloneNameSpec)

/-- 'laws.FnExactCloneNames', WHERE WHAT IT READS IS OF BULK AT MOST 1048576: true; the input reads as it did. -/
def fnExactCloneNamesUptoRow : OpenClaim := { program := "ythjgkgknlecjlaa", sum := "24b96758cead21c7b1e6fd259ebc3a6bd600f3e53abe344683ac66357c33461c", func := "loop.example/g01323/laws.FnExactCloneNames", spec := "fnExactCloneNames", recurses := true, plainKeys := false, apart := false, narrowed := true }
def FnExactCloneNamesUptoSaid : Prop := fnExactCloneNamesUptoRow.holds Try.pinned (OpenSpec.upto fnExactCloneNamesSpec)

/-- 'laws.FnExactBasesOf', WHERE WHAT IT READS IS OF BULK AT MOST 1048576: true; the input reads as it did. -/
def fnExactBasesOfUptoRow : OpenClaim := { program := "ythjgkgknlecjlaa", sum := "24b96758cead21c7b1e6fd259ebc3a6bd600f3e53abe344683ac66357c33461c", func := "loop.example/g01323/laws.FnExactBasesOf", spec := "fnExactBasesOf", unfollowed := true, recurses := true, plainKeys := false, apart := false, narrowed := true }
def FnExactBasesOfUptoSaid : Prop := fnExactBasesOfUptoRow.holds Try.pinned (OpenSpec.upto fnExactBasesOfSpec)

end Rows
end Go.Proofs.Ythjgkgknlecjlaa
