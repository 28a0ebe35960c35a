/-
  No cell of these rows narrows 'for every input' (looked for: loops, veiled, ifaces, maps, wideKeys, modest, calm, conditions, laid).
  DERIVED. THE GIVEN ROWS OF THIS SEAT. 7 by the template 'for every input the law returns true; each argument reads behind the call as it read before'; 0 by the template 'total and deterministic' (their statements: YtcolaggkeekgoabTotals.lean).
  GIVEN WITH THE SEED: the statements are not yours to turn. If you find one false, say at which input.
  Laid BY PROGRAM, IN A SANDBOX (cutbox-rows.mjs): the forced cells as the released guide's own fill.sh prints them over the translation 6de4194c9f41e1ee… (all of the seat's roots in one cut). By AI agents, Wed Nov 11 2026. No macro, syntax, notation, axiom, sorry.
-/
import Derived.Test.YtcolaggkeekgoabChecked
import GoSem.Claim
import GoSem.ClaimJoined
import GoSem.ClaimMapViews
import Derived.JoinedTies
import Derived.KernelRfl
namespace Go.Proofs.Ytcolaggkeekgoab
/- THE CELL 'sum', in the pinned program and in every row, IS THE sha256 OF THE DUMP (.gsa) THAT YtcolaggkeekgoabProg.lean LOADS. Nothing in Lean hashes anything: it is a label: what it is worth is what the hold of that sum in a sandbox is worth. -/
noncomputable def Try.pinned : Pinned := { name := "ytcolaggkeekgoab", sum := "6de4194c9f41e1eeabc57e38a0fada5da53b7deae2b6f6f96f730079e2b005f8", checked := Try.checked }
namespace Rows
def none {H : Type} : Left H := { results := [], args := [] }

/-- 'laws.FnExactFunctionsKeeping': WHATEVER THE INPUT: true; the input reads as it did. -/
def fnExactFunctionsKeepingSpec : ChangeSpec := { name := "fnExactFunctionsKeeping", fn := fun _ => fun
  | [d1, d2] => { results := [.lit (.bool true)], args := [d1, d2] }
  | _ => none }
def fnExactFunctionsKeepingRow : OpenClaim := { program := "ytcolaggkeekgoab", sum := "6de4194c9f41e1eeabc57e38a0fada5da53b7deae2b6f6f96f730079e2b005f8", func := "loop.example/g01323/laws.FnExactFunctionsKeeping", spec := "fnExactFunctionsKeeping", unfollowed := true, recurses := true, plainKeys := false, apart := false }
def FnExactFunctionsKeepingSaid : Prop := fnExactFunctionsKeepingRow.holds Try.pinned (OpenSpec.ofChange fnExactFunctionsKeepingSpec)

/-- ITS FALSE NEIGHBOUR: 'it returns false'. Refute it at one input. -/
def fnExactFunctionsKeepingWrong : ChangeSpec := { name := "fnExactFunctionsKeeping", fn := fun _ => fun
  | [d1, d2] => { results := [.lit (.bool false)], args := [d1, d2] }
  | _ => none }
def FnExactFunctionsKeepingWrongFalsely : Prop := fnExactFunctionsKeepingRow.holds Try.pinned (OpenSpec.ofChange fnExactFunctionsKeepingWrong)

/-- 'laws.FnExactProductOf': WHATEVER THE INPUT: true; the input reads as it did. -/
def fnExactProductOfSpec : ChangeSpec := { name := "fnExactProductOf", fn := fun _ => fun
  | [d1, d2] => { results := [.lit (.bool true)], args := [d1, d2] }
  | _ => none }
def fnExactProductOfRow : OpenClaim := { program := "ytcolaggkeekgoab", sum := "6de4194c9f41e1eeabc57e38a0fada5da53b7deae2b6f6f96f730079e2b005f8", func := "loop.example/g01323/laws.FnExactProductOf", spec := "fnExactProductOf", unfollowed := true, recurses := true, plainKeys := false, apart := false }
def FnExactProductOfSaid : Prop := fnExactProductOfRow.holds Try.pinned (OpenSpec.ofChange fnExactProductOfSpec)

/-- ITS FALSE NEIGHBOUR: 'it returns false'. Refute it at one input. -/
def fnExactProductOfWrong : ChangeSpec := { name := "fnExactProductOf", fn := fun _ => fun
  | [d1, d2] => { results := [.lit (.bool false)], args := [d1, d2] }
  | _ => none }
def FnExactProductOfWrongFalsely : Prop := fnExactProductOfRow.holds Try.pinned (OpenSpec.ofChange fnExactProductOfWrong)

/-- 'laws.FnExactProjectRelation': WHATEVER THE INPUT: true; the input reads as it did. -/
def fnExactProjectRelationSpec : ChangeSpec := { name := "fnExactProjectRelation", fn := fun _ => fun
  | [d1, d2] => { results := [.lit (.bool true)], args := [d1, d2] }
  | _ => none }
def fnExactProjectRelationRow : OpenClaim := { program := "ytcolaggkeekgoab", sum := "6de4194c9f41e1eeabc57e38a0fada5da53b7deae2b6f6f96f730079e2b005f8", func := "loop.example/g01323/laws.FnExactProjectRelation", spec := "fnExactProjectRelation", unfollowed := true, recurses := true, plainKeys := false, apart := false }
def FnExactProjectRelationSaid : Prop := fnExactProjectRelationRow.holds Try.pinned (OpenSpec.ofChange fnExactProjectRelationSpec)

/-- ITS FALSE NEIGHBOUR: 'it returns false'. Refute it at one input. -/
def fnExactProjectRelationWrong : ChangeSpec := { name := "fnExactProjectRelation", fn := fun _ => fun
  | [d1, d2] => { results := [.lit (.bool false)], args := [d1, d2] }
  | _ => none }
def FnExactProjectRelationWrongFalsely : Prop := fnExactProjectRelationRow.holds Try.pinned (OpenSpec.ofChange fnExactProjectRelationWrong)

/-- 'laws.FnExactIdentifyPlaces': WHATEVER THE INPUT: true; the input reads as it did. -/
def fnExactIdentifyPlacesSpec : ChangeSpec := { name := "fnExactIdentifyPlaces", fn := fun _ => fun
  | [d1, d2, d3] => { results := [.lit (.bool true)], args := [d1, d2, d3] }
  | _ => none }
def fnExactIdentifyPlacesRow : OpenClaim := { program := "ytcolaggkeekgoab", sum := "6de4194c9f41e1eeabc57e38a0fada5da53b7deae2b6f6f96f730079e2b005f8", func := "loop.example/g01323/laws.FnExactIdentifyPlaces", spec := "fnExactIdentifyPlaces", unfollowed := true, recurses := true, plainKeys := false, apart := false }
def FnExactIdentifyPlacesSaid : Prop := fnExactIdentifyPlacesRow.holds Try.pinned (OpenSpec.ofChange fnExactIdentifyPlacesSpec)

/-- ITS FALSE NEIGHBOUR: 'it returns false'. Refute it at one input. -/
def fnExactIdentifyPlacesWrong : ChangeSpec := { name := "fnExactIdentifyPlaces", fn := fun _ => fun
  | [d1, d2, d3] => { results := [.lit (.bool false)], args := [d1, d2, d3] }
  | _ => none }
def FnExactIdentifyPlacesWrongFalsely : Prop := fnExactIdentifyPlacesRow.holds Try.pinned (OpenSpec.ofChange fnExactIdentifyPlacesWrong)

/-- 'laws.FnExactBasesOf': WHATEVER THE INPUT: true; the input reads as it did. -/
def fnExactBasesOfSpec : ChangeSpec := { name := "fnExactBasesOf", fn := fun _ => fun
  | [d] => { results := [.lit (.bool true)], args := [d] }
  | _ => none }
def fnExactBasesOfRow : OpenClaim := { program := "ytcolaggkeekgoab", sum := "6de4194c9f41e1eeabc57e38a0fada5da53b7deae2b6f6f96f730079e2b005f8", func := "loop.example/g01323/laws.FnExactBasesOf", spec := "fnExactBasesOf", unfollowed := true, recurses := true, plainKeys := false, apart := false }
def FnExactBasesOfSaid : Prop := fnExactBasesOfRow.holds Try.pinned (OpenSpec.ofChange fnExactBasesOfSpec)

/-- ITS FALSE NEIGHBOUR: 'it returns false'. Refute it at one input. -/
def fnExactBasesOfWrong : ChangeSpec := { name := "fnExactBasesOf", fn := fun _ => fun
  | [d] => { results := [.lit (.bool false)], args := [d] }
  | _ => none }
def FnExactBasesOfWrongFalsely : Prop := fnExactBasesOfRow.holds Try.pinned (OpenSpec.ofChange fnExactBasesOfWrong)

/-- 'laws.FnPolynomials': WHATEVER THE INPUT: true; the input reads as it did. -/
def fnPolynomialsSpec : ChangeSpec := { name := "fnPolynomials", fn := fun _ => fun
  | [d] => { results := [.lit (.bool true)], args := [d] }
  | _ => none }
def fnPolynomialsRow : OpenClaim := { program := "ytcolaggkeekgoab", sum := "6de4194c9f41e1eeabc57e38a0fada5da53b7deae2b6f6f96f730079e2b005f8", func := "loop.example/g01323/laws.FnPolynomials", spec := "fnPolynomials", unfollowed := true, recurses := true, plainKeys := false, apart := false }
def FnPolynomialsSaid : Prop := fnPolynomialsRow.holds Try.pinned (OpenSpec.ofChange fnPolynomialsSpec)

/-- ITS FALSE NEIGHBOUR: 'it returns false'. Refute it at one input. -/
def fnPolynomialsWrong : ChangeSpec := { name := "fnPolynomials", fn := fun _ => fun
  | [d] => { results := [.lit (.bool false)], args := [d] }
  | _ => none }
def FnPolynomialsWrongFalsely : Prop := fnPolynomialsRow.holds Try.pinned (OpenSpec.ofChange fnPolynomialsWrong)

/-- 'laws.FnRelations': WHATEVER THE INPUT: true; the input reads as it did. -/
def fnRelationsSpec : ChangeSpec := { name := "fnRelations", fn := fun _ => fun
  | [d] => { results := [.lit (.bool true)], args := [d] }
  | _ => none }
def fnRelationsRow : OpenClaim := { program := "ytcolaggkeekgoab", sum := "6de4194c9f41e1eeabc57e38a0fada5da53b7deae2b6f6f96f730079e2b005f8", func := "loop.example/g01323/laws.FnRelations", spec := "fnRelations", unfollowed := true, recurses := true, plainKeys := false, apart := false }
def FnRelationsSaid : Prop := fnRelationsRow.holds Try.pinned (OpenSpec.ofChange fnRelationsSpec)

/-- ITS FALSE NEIGHBOUR: 'it returns false'. Refute it at one input. -/
def fnRelationsWrong : ChangeSpec := { name := "fnRelations", fn := fun _ => fun
  | [d] => { results := [.lit (.bool false)], args := [d] }
  | _ => none }
def FnRelationsWrongFalsely : Prop := fnRelationsRow.holds Try.pinned (OpenSpec.ofChange fnRelationsWrong)

/- THE SECOND FORM. 'bulk': how many values and letters a reading holds, each counted each time it is reached (what is shared counts as often as it is met; a slice's spare places count too). A statement '..UptoSaid' is the law's where the arguments, and the package variables that the reading takes, are together of bulk at most 1048576: NARROWER than '..Said'. Prove '..Said' where nothing that the law and all that it calls make is longer than what came in: it says more and counts as full. Else prove '..UptoSaid'. A law counts once. -/
mutual
def uptoBulk {H : Type} : DataW H → Nat
  | .lit (.string bytes) => bytes.length + 1
  | .lit _ => 1
  | .nil => 1
  | .ptr d => uptoBulk d + 1
  | .slice elems spare => uptoBulkAll elems + uptoBulkAll spare + 1
  | .agg parts => uptoBulkAll parts + 1
  | .iface _ d => uptoBulk d + 1
  | .map entries => uptoBulkEntries entries + 1
  | .held _ => 1
def uptoBulkAll {H : Type} : List (DataW H) → Nat
  | [] => 0
  | d :: r => uptoBulk d + uptoBulkAll r
def uptoBulkEntries {H : Type} : List (Lit × DataW H) → Nat
  | [] => 0
  | x :: r => uptoBulkEntry x + uptoBulkEntries r
def uptoBulkEntry {H : Type} : Lit × DataW H → Nat
  | (.string bytes, d) => bytes.length + uptoBulk d + 1
  | (_, d) => uptoBulk d + 1
 end
def uptoSmall : (H : Type) → List (DataW H) → Bool := fun _ ds => decide (uptoBulkAll ds ≤ 1048576)
def OpenSpec.upto (s : _root_.Go.ChangeSpec) : _root_.Go.OpenSpec := { _root_.Go.OpenSpec.ofChange s with cond := some uptoSmall }

/-- 'laws.FnExactFunctionsKeeping', WHERE WHAT IT READS IS OF BULK AT MOST 1048576: true; the input reads as it did. -/
def fnExactFunctionsKeepingUptoRow : OpenClaim := { program := "ytcolaggkeekgoab", sum := "6de4194c9f41e1eeabc57e38a0fada5da53b7deae2b6f6f96f730079e2b005f8", func := "loop.example/g01323/laws.FnExactFunctionsKeeping", spec := "fnExactFunctionsKeeping", unfollowed := true, recurses := true, plainKeys := false, apart := false, narrowed := true }
def FnExactFunctionsKeepingUptoSaid : Prop := fnExactFunctionsKeepingUptoRow.holds Try.pinned (OpenSpec.upto fnExactFunctionsKeepingSpec)

/-- 'laws.FnExactProductOf', WHERE WHAT IT READS IS OF BULK AT MOST 1048576: true; the input reads as it did. -/
def fnExactProductOfUptoRow : OpenClaim := { program := "ytcolaggkeekgoab", sum := "6de4194c9f41e1eeabc57e38a0fada5da53b7deae2b6f6f96f730079e2b005f8", func := "loop.example/g01323/laws.FnExactProductOf", spec := "fnExactProductOf", unfollowed := true, recurses := true, plainKeys := false, apart := false, narrowed := true }
def FnExactProductOfUptoSaid : Prop := fnExactProductOfUptoRow.holds Try.pinned (OpenSpec.upto fnExactProductOfSpec)

/-- 'laws.FnExactProjectRelation', WHERE WHAT IT READS IS OF BULK AT MOST 1048576: true; the input reads as it did. -/
def fnExactProjectRelationUptoRow : OpenClaim := { program := "ytcolaggkeekgoab", sum := "6de4194c9f41e1eeabc57e38a0fada5da53b7deae2b6f6f96f730079e2b005f8", func := "loop.example/g01323/laws.FnExactProjectRelation", spec := "fnExactProjectRelation", unfollowed := true, recurses := true, plainKeys := false, apart := false, narrowed := true }
def FnExactProjectRelationUptoSaid : Prop := fnExactProjectRelationUptoRow.holds Try.pinned (OpenSpec.upto fnExactProjectRelationSpec)

/-- 'laws.FnExactIdentifyPlaces', WHERE WHAT IT READS IS OF BULK AT MOST 1048576: true; the input reads as it did. -/
def fnExactIdentifyPlacesUptoRow : OpenClaim := { program := "ytcolaggkeekgoab", sum := "6de4194c9f41e1eeabc57e38a0fada5da53b7deae2b6f6f96f730079e2b005f8", func := "loop.example/g01323/laws.FnExactIdentifyPlaces", spec := "fnExactIdentifyPlaces", unfollowed := true, recurses := true, plainKeys := false, apart := false, narrowed := true }
def FnExactIdentifyPlacesUptoSaid : Prop := fnExactIdentifyPlacesUptoRow.holds Try.pinned (OpenSpec.upto fnExactIdentifyPlacesSpec)

/-- 'laws.FnExactBasesOf', WHERE WHAT IT READS IS OF BULK AT MOST 1048576: true; the input reads as it did. -/
def fnExactBasesOfUptoRow : OpenClaim := { program := "ytcolaggkeekgoab", sum := "6de4194c9f41e1eeabc57e38a0fada5da53b7deae2b6f6f96f730079e2b005f8", func := "loop.example/g01323/laws.FnExactBasesOf", spec := "fnExactBasesOf", unfollowed := true, recurses := true, plainKeys := false, apart := false, narrowed := true }
def FnExactBasesOfUptoSaid : Prop := fnExactBasesOfUptoRow.holds Try.pinned (OpenSpec.upto fnExactBasesOfSpec)

/-- 'laws.FnPolynomials', WHERE WHAT IT READS IS OF BULK AT MOST 1048576: true; the input reads as it did. -/
def fnPolynomialsUptoRow : OpenClaim := { program := "ytcolaggkeekgoab", sum := "6de4194c9f41e1eeabc57e38a0fada5da53b7deae2b6f6f96f730079e2b005f8", func := "loop.example/g01323/laws.FnPolynomials", spec := "fnPolynomials", unfollowed := true, recurses := true, plainKeys := false, apart := false, narrowed := true }
def FnPolynomialsUptoSaid : Prop := fnPolynomialsUptoRow.holds Try.pinned (OpenSpec.upto fnPolynomialsSpec)

/-- 'laws.FnRelations', WHERE WHAT IT READS IS OF BULK AT MOST 1048576: true; the input reads as it did. -/
def fnRelationsUptoRow : OpenClaim := { program := "ytcolaggkeekgoab", sum := "6de4194c9f41e1eeabc57e38a0fada5da53b7deae2b6f6f96f730079e2b005f8", func := "loop.example/g01323/laws.FnRelations", spec := "fnRelations", unfollowed := true, recurses := true, plainKeys := false, apart := false, narrowed := true }
def FnRelationsUptoSaid : Prop := fnRelationsUptoRow.holds Try.pinned (OpenSpec.upto fnRelationsSpec)

end Rows
end Go.Proofs.Ytcolaggkeekgoab
