/-
  No cell of these rows narrows 'for every input' (looked for: loops, veiled, ifaces, maps, wideKeys, modest, calm, conditions, laid).
  DERIVED. THE GIVEN ROWS OF THIS SEAT. 7 by the template 'for every input the law returns true; each argument reads behind the call as it read before'; 0 by the template 'total and deterministic' (their statements: YtbdhlokbpbiijaaTotals.lean).
  GIVEN WITH THE SEED: the statements are not yours to turn. If you find one false, say at which input.
  Laid BY PROGRAM, IN A SANDBOX (cutbox-rows.mjs): the forced cells as the released guide's own fill.sh prints them over the translation c44d97b793af0c70… (all of the seat's roots in one cut). By AI agents, Wed Nov 11 2026. No macro, syntax, notation, axiom, sorry.
-/
import Derived.Test.YtbdhlokbpbiijaaChecked
import GoSem.Claim
import GoSem.ClaimJoined
import GoSem.ClaimMapViews
import Derived.JoinedTies
import Derived.KernelRfl
namespace Go.Proofs.Ytbdhlokbpbiijaa
/- THE CELL 'sum', in the pinned program and in every row, IS THE sha256 OF THE DUMP (.gsa) THAT YtbdhlokbpbiijaaProg.lean LOADS. Nothing in Lean hashes anything: it is a label: what it is worth is what the hold of that sum in a sandbox is worth. -/
noncomputable def Try.pinned : Pinned := { name := "ytbdhlokbpbiijaa", sum := "c44d97b793af0c7082013a6b5b67e885d6b57e178019c9b7e6166ff0463a84b3", checked := Try.checked }
namespace Rows
def none {H : Type} : Left H := { results := [], args := [] }

/-- 'laws.FnWeighings': WHATEVER THE INPUT: true; the input reads as it did. -/
def fnWeighingsSpec : ChangeSpec := { name := "fnWeighings", fn := fun _ => fun
  | [d] => { results := [.lit (.bool true)], args := [d] }
  | _ => none }
def fnWeighingsRow : OpenClaim := { program := "ytbdhlokbpbiijaa", sum := "c44d97b793af0c7082013a6b5b67e885d6b57e178019c9b7e6166ff0463a84b3", func := "loop.example/g01323/laws.FnWeighings", spec := "fnWeighings", unfollowed := true, recurses := true, plainKeys := false, apart := false }
def FnWeighingsSaid : Prop := fnWeighingsRow.holds Try.pinned (OpenSpec.ofChange fnWeighingsSpec)

/-- ITS FALSE NEIGHBOUR: 'it returns false'. Refute it at one input. -/
def fnWeighingsWrong : ChangeSpec := { name := "fnWeighings", fn := fun _ => fun
  | [d] => { results := [.lit (.bool false)], args := [d] }
  | _ => none }
def FnWeighingsWrongFalsely : Prop := fnWeighingsRow.holds Try.pinned (OpenSpec.ofChange fnWeighingsWrong)

/-- 'laws.FnRelationParts': WHATEVER THE INPUT: true; the input reads as it did. -/
def fnRelationPartsSpec : ChangeSpec := { name := "fnRelationParts", fn := fun _ => fun
  | [d] => { results := [.lit (.bool true)], args := [d] }
  | _ => none }
def fnRelationPartsRow : OpenClaim := { program := "ytbdhlokbpbiijaa", sum := "c44d97b793af0c7082013a6b5b67e885d6b57e178019c9b7e6166ff0463a84b3", func := "loop.example/g01323/laws.FnRelationParts", spec := "fnRelationParts", unfollowed := true, recurses := true, plainKeys := false, apart := false }
def FnRelationPartsSaid : Prop := fnRelationPartsRow.holds Try.pinned (OpenSpec.ofChange fnRelationPartsSpec)

/-- ITS FALSE NEIGHBOUR: 'it returns false'. Refute it at one input. -/
def fnRelationPartsWrong : ChangeSpec := { name := "fnRelationParts", fn := fun _ => fun
  | [d] => { results := [.lit (.bool false)], args := [d] }
  | _ => none }
def FnRelationPartsWrongFalsely : Prop := fnRelationPartsRow.holds Try.pinned (OpenSpec.ofChange fnRelationPartsWrong)

/-- 'laws.FnIdentities': WHATEVER THE INPUT: true; the input reads as it did. -/
def fnIdentitiesSpec : ChangeSpec := { name := "fnIdentities", fn := fun _ => fun
  | [d] => { results := [.lit (.bool true)], args := [d] }
  | _ => none }
def fnIdentitiesRow : OpenClaim := { program := "ytbdhlokbpbiijaa", sum := "c44d97b793af0c7082013a6b5b67e885d6b57e178019c9b7e6166ff0463a84b3", func := "loop.example/g01323/laws.FnIdentities", spec := "fnIdentities", unfollowed := true, recurses := true, plainKeys := false, apart := false }
def FnIdentitiesSaid : Prop := fnIdentitiesRow.holds Try.pinned (OpenSpec.ofChange fnIdentitiesSpec)

/-- ITS FALSE NEIGHBOUR: 'it returns false'. Refute it at one input. -/
def fnIdentitiesWrong : ChangeSpec := { name := "fnIdentities", fn := fun _ => fun
  | [d] => { results := [.lit (.bool false)], args := [d] }
  | _ => none }
def FnIdentitiesWrongFalsely : Prop := fnIdentitiesRow.holds Try.pinned (OpenSpec.ofChange fnIdentitiesWrong)

/-- 'laws.FnExactBasesOf': WHATEVER THE INPUT: true; the input reads as it did. -/
def fnExactBasesOfSpec : ChangeSpec := { name := "fnExactBasesOf", fn := fun _ => fun
  | [d] => { results := [.lit (.bool true)], args := [d] }
  | _ => none }
def fnExactBasesOfRow : OpenClaim := { program := "ytbdhlokbpbiijaa", sum := "c44d97b793af0c7082013a6b5b67e885d6b57e178019c9b7e6166ff0463a84b3", func := "loop.example/g01323/laws.FnExactBasesOf", spec := "fnExactBasesOf", unfollowed := true, recurses := true, plainKeys := false, apart := false }
def FnExactBasesOfSaid : Prop := fnExactBasesOfRow.holds Try.pinned (OpenSpec.ofChange fnExactBasesOfSpec)

/-- ITS FALSE NEIGHBOUR: 'it returns false'. Refute it at one input. -/
def fnExactBasesOfWrong : ChangeSpec := { name := "fnExactBasesOf", fn := fun _ => fun
  | [d] => { results := [.lit (.bool false)], args := [d] }
  | _ => none }
def FnExactBasesOfWrongFalsely : Prop := fnExactBasesOfRow.holds Try.pinned (OpenSpec.ofChange fnExactBasesOfWrong)

/-- 'laws.FnExactWeighingOf': WHATEVER THE INPUT: true; the input reads as it did. -/
def fnExactWeighingOfSpec : ChangeSpec := { name := "fnExactWeighingOf", fn := fun _ => fun
  | [d] => { results := [.lit (.bool true)], args := [d] }
  | _ => none }
def fnExactWeighingOfRow : OpenClaim := { program := "ytbdhlokbpbiijaa", sum := "c44d97b793af0c7082013a6b5b67e885d6b57e178019c9b7e6166ff0463a84b3", func := "loop.example/g01323/laws.FnExactWeighingOf", spec := "fnExactWeighingOf", unfollowed := true, recurses := true, plainKeys := false, apart := false }
def FnExactWeighingOfSaid : Prop := fnExactWeighingOfRow.holds Try.pinned (OpenSpec.ofChange fnExactWeighingOfSpec)

/-- ITS FALSE NEIGHBOUR: 'it returns false'. Refute it at one input. -/
def fnExactWeighingOfWrong : ChangeSpec := { name := "fnExactWeighingOf", fn := fun _ => fun
  | [d] => { results := [.lit (.bool false)], args := [d] }
  | _ => none }
def FnExactWeighingOfWrongFalsely : Prop := fnExactWeighingOfRow.holds Try.pinned (OpenSpec.ofChange fnExactWeighingOfWrong)

/-- 'laws.FnExactCountThreshold': WHATEVER THE INPUT: true; the input reads as it did. -/
def fnExactCountThresholdSpec : ChangeSpec := { name := "fnExactCountThreshold", fn := fun _ => fun
  | [d] => { results := [.lit (.bool true)], args := [d] }
  | _ => none }
def fnExactCountThresholdRow : OpenClaim := { program := "ytbdhlokbpbiijaa", sum := "c44d97b793af0c7082013a6b5b67e885d6b57e178019c9b7e6166ff0463a84b3", func := "loop.example/g01323/laws.FnExactCountThreshold", spec := "fnExactCountThreshold", unfollowed := true, recurses := true, plainKeys := false, apart := false }
def FnExactCountThresholdSaid : Prop := fnExactCountThresholdRow.holds Try.pinned (OpenSpec.ofChange fnExactCountThresholdSpec)

/-- ITS FALSE NEIGHBOUR: 'it returns false'. Refute it at one input. -/
def fnExactCountThresholdWrong : ChangeSpec := { name := "fnExactCountThreshold", fn := fun _ => fun
  | [d] => { results := [.lit (.bool false)], args := [d] }
  | _ => none }
def FnExactCountThresholdWrongFalsely : Prop := fnExactCountThresholdRow.holds Try.pinned (OpenSpec.ofChange fnExactCountThresholdWrong)

/-- 'laws.FnExactCloneNames': WHATEVER THE INPUT: true; the input reads as it did. -/
def fnExactCloneNamesSpec : ChangeSpec := { name := "fnExactCloneNames", fn := fun _ => fun
  | [] => { results := [.lit (.bool true)], args := [] }
  | _ => none }
def fnExactCloneNamesRow : OpenClaim := { program := "ytbdhlokbpbiijaa", sum := "c44d97b793af0c7082013a6b5b67e885d6b57e178019c9b7e6166ff0463a84b3", func := "loop.example/g01323/laws.FnExactCloneNames", spec := "fnExactCloneNames", recurses := true, plainKeys := false, apart := false }
def FnExactCloneNamesSaid : Prop := fnExactCloneNamesRow.holds Try.pinned (OpenSpec.ofChange fnExactCloneNamesSpec)

/-- ITS FALSE NEIGHBOUR: 'it returns false'. Refute it at one input. -/
def fnExactCloneNamesWrong : ChangeSpec := { name := "fnExactCloneNames", fn := fun _ => fun
  | [] => { results := [.lit (.bool false)], args := [] }
  | _ => none }
def FnExactCloneNamesWrongFalsely : Prop := fnExactCloneNamesRow.holds Try.pinned (OpenSpec.ofChange fnExactCloneNamesWrong)

/- THE SECOND FORM. 'bulk': how many values and letters a reading holds, each counted each time it is reached (what is shared counts as often as it is met; a slice's spare places count too). A statement '..UptoSaid' is the law's where the arguments, and the package variables that the reading takes, are together of bulk at most 1048576: NARROWER than '..Said'. Prove '..Said' where nothing that the law and all that it calls make is longer than what came in: it says more and counts as full. Else prove '..UptoSaid'. A law counts once. -/
mutual
def uptoBulk {H : Type} : DataW H → Nat
  | .lit (.string bytes) => bytes.length + 1
  | .lit _ => 1
  | .nil => 1
  | .ptr d => uptoBulk d + 1
  | .slice elems spare => uptoBulkAll elems + uptoBulkAll spare + 1
  | .agg parts => uptoBulkAll parts + 1
  | .iface _ d => uptoBulk d + 1
  | .map entries => uptoBulkEntries entries + 1
  | .held _ => 1
def uptoBulkAll {H : Type} : List (DataW H) → Nat
  | [] => 0
  | d :: r => uptoBulk d + uptoBulkAll r
def uptoBulkEntries {H : Type} : List (Lit × DataW H) → Nat
  | [] => 0
  | x :: r => uptoBulkEntry x + uptoBulkEntries r
def uptoBulkEntry {H : Type} : Lit × DataW H → Nat
  | (.string bytes, d) => bytes.length + uptoBulk d + 1
  | (_, d) => uptoBulk d + 1
 end
def uptoSmall : (H : Type) → List (DataW H) → Bool := fun _ ds => decide (uptoBulkAll ds ≤ 1048576)
def OpenSpec.upto (s : _root_.Go.ChangeSpec) : _root_.Go.OpenSpec := { _root_.Go.OpenSpec.ofChange s with cond := some uptoSmall }

/-- 'laws.FnWeighings', WHERE WHAT IT READS IS OF BULK AT MOST 1048576: true; the input reads as it did. -/
def fnWeighingsUptoRow : OpenClaim := { program := "ytbdhlokbpbiijaa", sum := "c44d97b793af0c7082013a6b5b67e885d6b57e178019c9b7e6166ff0463a84b3", func := "loop.example/g01323/laws.FnWeighings", spec := "fnWeighings", unfollowed := true, recurses := true, plainKeys := false, apart := false, narrowed := true }
def FnWeighingsUptoSaid : Prop := fnWeighingsUptoRow.holds Try.pinned (OpenSpec.upto fnWeighingsSpec)

/-- 'laws.FnRelationParts', WHERE WHAT IT READS IS OF BULK AT MOST 1048576: true; the input reads as it did. -/
def fnRelationPartsUptoRow : OpenClaim := { program := "ytbdhlokbpbiijaa", sum := "c44d97b793af0c7082013a6b5b67e885d6b57e178019c9b7e6166ff0463a84b3", func := "loop.example/g01323/laws.FnRelationParts", spec := "fnRelationParts", unfollowed := true, recurses := true, plainKeys := false, apart := false, narrowed := true }
def FnRelationPartsUptoSaid : Prop := fnRelationPartsUptoRow.holds Try.pinned (OpenSpec.upto fnRelationPartsSpec)

/-- 'laws.FnIdentities', WHERE WHAT IT READS IS OF BULK AT MOST 1048576: true; the input reads as it did. -/
def fnIdentitiesUptoRow : OpenClaim := { program := "ytbdhlokbpbiijaa", sum := "c44d97b793af0c7082013a6b5b67e885d6b57e178019c9b7e6166ff0463a84b3", func := "loop.example/g01323/laws.FnIdentities", spec := "fnIdentities", unfollowed := true, recurses := true, plainKeys := false, apart := false, narrowed := true }
def FnIdentitiesUptoSaid : Prop := fnIdentitiesUptoRow.holds Try.pinned (OpenSpec.upto fnIdentitiesSpec)

/-- 'laws.FnExactBasesOf', WHERE WHAT IT READS IS OF BULK AT MOST 1048576: true; the input reads as it did. -/
def fnExactBasesOfUptoRow : OpenClaim := { program := "ytbdhlokbpbiijaa", sum := "c44d97b793af0c7082013a6b5b67e885d6b57e178019c9b7e6166ff0463a84b3", func := "loop.example/g01323/laws.FnExactBasesOf", spec := "fnExactBasesOf", unfollowed := true, recurses := true, plainKeys := false, apart := false, narrowed := true }
def FnExactBasesOfUptoSaid : Prop := fnExactBasesOfUptoRow.holds Try.pinned (OpenSpec.upto fnExactBasesOfSpec)

/-- 'laws.FnExactWeighingOf', WHERE WHAT IT READS IS OF BULK AT MOST 1048576: true; the input reads as it did. -/
def fnExactWeighingOfUptoRow : OpenClaim := { program := "ytbdhlokbpbiijaa", sum := "c44d97b793af0c7082013a6b5b67e885d6b57e178019c9b7e6166ff0463a84b3", func := "loop.example/g01323/laws.FnExactWeighingOf", spec := "fnExactWeighingOf", unfollowed := true, recurses := true, plainKeys := false, apart := false, narrowed := true }
def FnExactWeighingOfUptoSaid : Prop := fnExactWeighingOfUptoRow.holds Try.pinned (OpenSpec.upto fnExactWeighingOfSpec)

/-- 'laws.FnExactCountThreshold', WHERE WHAT IT READS IS OF BULK AT MOST 1048576: true; the input reads as it did. -/
def fnExactCountThresholdUptoRow : OpenClaim := { program := "ytbdhlokbpbiijaa", sum := "c44d97b793af0c7082013a6b5b67e885d6b57e178019c9b7e6166ff0463a84b3", func := "loop.example/g01323/laws.FnExactCountThreshold", spec := "fnExactCountThreshold", unfollowed := true, recurses := true, plainKeys := false, apart := false, narrowed := true }
def FnExactCountThresholdUptoSaid : Prop := fnExactCountThresholdUptoRow.holds Try.pinned (OpenSpec.upto fnExactCountThresholdSpec)

/-- 'laws.FnExactCloneNames', WHERE WHAT IT READS IS OF BULK AT MOST 1048576: true; the input reads as it did. -/
def fnExactCloneNamesUptoRow : OpenClaim := { program := "ytbdhlokbpbiijaa", sum := "c44d97b793af0c7082013a6b5b67e885d6b57e178019c9b7e6166ff0463a84b3", func := "loop.example/g01323/laws.FnExactCloneNames", spec := "fnExactCloneNames", recurses := true, plainKeys := false, apart := false, narrowed := true }
def FnExactCloneNamesUptoSaid : Prop := fnExactCloneNamesUptoRow.holds Try.pinned (OpenSpec.upto fnExactCloneNamesSpec)

end Rows
end Go.Proofs.Ytbdhlokbpbiijaa
