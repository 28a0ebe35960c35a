/-
  No cell of these rows narrows 'for every input' (looked for: loops, veiled, ifaces, maps, wideKeys, modest, calm, conditions, laid).
  DERIVED. THE GIVEN ROWS OF THIS SEAT. 12 by the template 'for every input the law returns true; each argument reads behind the call as it read before'; 0 by the template 'total and deterministic' (their statements: YtlohldddioikaaaTotals.lean).
  GIVEN WITH THE SEED: the statements are not yours to turn. If you find one false, say at which input.
  Laid BY PROGRAM, IN A SANDBOX (cutbox-rows.mjs): the forced cells as the released guide's own fill.sh prints them over the translation d50c469403246a07… (all of the seat's roots in one cut). By AI agents, Wed Nov 11 2026. No macro, syntax, notation, axiom, sorry.
-/
import Derived.Test.YtlohldddioikaaaChecked
import GoSem.Claim
import GoSem.ClaimJoined
import GoSem.ClaimMapViews
import Derived.JoinedTies
import Derived.KernelRfl
namespace Go.Proofs.Ytlohldddioikaaa
/- THE CELL 'sum', in the pinned program and in every row, IS THE sha256 OF THE DUMP (.gsa) THAT YtlohldddioikaaaProg.lean LOADS. Nothing in Lean hashes anything: it is a label: what it is worth is what the hold of that sum in a sandbox is worth. -/
noncomputable def Try.pinned : Pinned := { name := "ytlohldddioikaaa", sum := "d50c469403246a07ed6b9849f0ed4587dfa63790cfe53504c3803616a5dd9d84", checked := Try.checked }
namespace Rows
def none {H : Type} : Left H := { results := [], args := [] }

/-- 'laws.FnExactIsRelation': WHATEVER THE INPUT: true; the input reads as it did. -/
def fnExactIsRelationSpec : ChangeSpec := { name := "fnExactIsRelation", fn := fun _ => fun
  | [d] => { results := [.lit (.bool true)], args := [d] }
  | _ => none }
def fnExactIsRelationRow : OpenClaim := { program := "ytlohldddioikaaa", sum := "d50c469403246a07ed6b9849f0ed4587dfa63790cfe53504c3803616a5dd9d84", func := "loop.example/g01323/laws.FnExactIsRelation", spec := "fnExactIsRelation", apart := false }
def FnExactIsRelationSaid : Prop := fnExactIsRelationRow.holds Try.pinned (OpenSpec.ofChange fnExactIsRelationSpec)

/-- ITS FALSE NEIGHBOUR: 'it returns false'. Refute it at one input. -/
def fnExactIsRelationWrong : ChangeSpec := { name := "fnExactIsRelation", fn := fun _ => fun
  | [d] => { results := [.lit (.bool false)], args := [d] }
  | _ => none }
def FnExactIsRelationWrongFalsely : Prop := fnExactIsRelationRow.holds Try.pinned (OpenSpec.ofChange fnExactIsRelationWrong)

/-- 'laws.FnExactCountTuples': WHATEVER THE INPUT: true; the input reads as it did. -/
def fnExactCountTuplesSpec : ChangeSpec := { name := "fnExactCountTuples", fn := fun _ => fun
  | [d] => { results := [.lit (.bool true)], args := [d] }
  | _ => none }
def fnExactCountTuplesRow : OpenClaim := { program := "ytlohldddioikaaa", sum := "d50c469403246a07ed6b9849f0ed4587dfa63790cfe53504c3803616a5dd9d84", func := "loop.example/g01323/laws.FnExactCountTuples", spec := "fnExactCountTuples", apart := false }
def FnExactCountTuplesSaid : Prop := fnExactCountTuplesRow.holds Try.pinned (OpenSpec.ofChange fnExactCountTuplesSpec)

/-- ITS FALSE NEIGHBOUR: 'it returns false'. Refute it at one input. -/
def fnExactCountTuplesWrong : ChangeSpec := { name := "fnExactCountTuples", fn := fun _ => fun
  | [d] => { results := [.lit (.bool false)], args := [d] }
  | _ => none }
def FnExactCountTuplesWrongFalsely : Prop := fnExactCountTuplesRow.holds Try.pinned (OpenSpec.ofChange fnExactCountTuplesWrong)

/-- 'laws.FnExactKeepsRelation': WHATEVER THE INPUT: true; the input reads as it did. -/
def fnExactKeepsRelationSpec : ChangeSpec := { name := "fnExactKeepsRelation", fn := fun _ => fun
  | [d1, d2] => { results := [.lit (.bool true)], args := [d1, d2] }
  | _ => none }
def fnExactKeepsRelationRow : OpenClaim := { program := "ytlohldddioikaaa", sum := "d50c469403246a07ed6b9849f0ed4587dfa63790cfe53504c3803616a5dd9d84", func := "loop.example/g01323/laws.FnExactKeepsRelation", spec := "fnExactKeepsRelation", unfollowed := true, recurses := true, apart := false }
def FnExactKeepsRelationSaid : Prop := fnExactKeepsRelationRow.holds Try.pinned (OpenSpec.ofChange fnExactKeepsRelationSpec)

/-- ITS FALSE NEIGHBOUR: 'it returns false'. Refute it at one input. -/
def fnExactKeepsRelationWrong : ChangeSpec := { name := "fnExactKeepsRelation", fn := fun _ => fun
  | [d1, d2] => { results := [.lit (.bool false)], args := [d1, d2] }
  | _ => none }
def FnExactKeepsRelationWrongFalsely : Prop := fnExactKeepsRelationRow.holds Try.pinned (OpenSpec.ofChange fnExactKeepsRelationWrong)

/-- 'laws.FnExactFunctionsKeeping': WHATEVER THE INPUT: true; the input reads as it did. -/
def fnExactFunctionsKeepingSpec : ChangeSpec := { name := "fnExactFunctionsKeeping", fn := fun _ => fun
  | [d1, d2] => { results := [.lit (.bool true)], args := [d1, d2] }
  | _ => none }
def fnExactFunctionsKeepingRow : OpenClaim := { program := "ytlohldddioikaaa", sum := "d50c469403246a07ed6b9849f0ed4587dfa63790cfe53504c3803616a5dd9d84", func := "loop.example/g01323/laws.FnExactFunctionsKeeping", spec := "fnExactFunctionsKeeping", unfollowed := true, recurses := true, apart := false }
def FnExactFunctionsKeepingSaid : Prop := fnExactFunctionsKeepingRow.holds Try.pinned (OpenSpec.ofChange fnExactFunctionsKeepingSpec)

/-- ITS FALSE NEIGHBOUR: 'it returns false'. Refute it at one input. -/
def fnExactFunctionsKeepingWrong : ChangeSpec := { name := "fnExactFunctionsKeeping", fn := fun _ => fun
  | [d1, d2] => { results := [.lit (.bool false)], args := [d1, d2] }
  | _ => none }
def FnExactFunctionsKeepingWrongFalsely : Prop := fnExactFunctionsKeepingRow.holds Try.pinned (OpenSpec.ofChange fnExactFunctionsKeepingWrong)

/-- 'laws.FnExactRelationsKept': WHATEVER THE INPUT: true; the input reads as it did. -/
def fnExactRelationsKeptSpec : ChangeSpec := { name := "fnExactRelationsKept", fn := fun _ => fun
  | [d1, d2] => { results := [.lit (.bool true)], args := [d1, d2] }
  | _ => none }
def fnExactRelationsKeptRow : OpenClaim := { program := "ytlohldddioikaaa", sum := "d50c469403246a07ed6b9849f0ed4587dfa63790cfe53504c3803616a5dd9d84", func := "loop.example/g01323/laws.FnExactRelationsKept", spec := "fnExactRelationsKept", unfollowed := true, recurses := true, apart := false }
def FnExactRelationsKeptSaid : Prop := fnExactRelationsKeptRow.holds Try.pinned (OpenSpec.ofChange fnExactRelationsKeptSpec)

/-- ITS FALSE NEIGHBOUR: 'it returns false'. Refute it at one input. -/
def fnExactRelationsKeptWrong : ChangeSpec := { name := "fnExactRelationsKept", fn := fun _ => fun
  | [d1, d2] => { results := [.lit (.bool false)], args := [d1, d2] }
  | _ => none }
def FnExactRelationsKeptWrongFalsely : Prop := fnExactRelationsKeptRow.holds Try.pinned (OpenSpec.ofChange fnExactRelationsKeptWrong)

/-- 'laws.FnExactClosureOf': WHATEVER THE INPUT: true; the input reads as it did. -/
def fnExactClosureOfSpec : ChangeSpec := { name := "fnExactClosureOf", fn := fun _ => fun
  | [d1, d2] => { results := [.lit (.bool true)], args := [d1, d2] }
  | _ => none }
def fnExactClosureOfRow : OpenClaim := { program := "ytlohldddioikaaa", sum := "d50c469403246a07ed6b9849f0ed4587dfa63790cfe53504c3803616a5dd9d84", func := "loop.example/g01323/laws.FnExactClosureOf", spec := "fnExactClosureOf", unfollowed := true, recurses := true, apart := false }
def FnExactClosureOfSaid : Prop := fnExactClosureOfRow.holds Try.pinned (OpenSpec.ofChange fnExactClosureOfSpec)

/-- ITS FALSE NEIGHBOUR: 'it returns false'. Refute it at one input. -/
def fnExactClosureOfWrong : ChangeSpec := { name := "fnExactClosureOf", fn := fun _ => fun
  | [d1, d2] => { results := [.lit (.bool false)], args := [d1, d2] }
  | _ => none }
def FnExactClosureOfWrongFalsely : Prop := fnExactClosureOfRow.holds Try.pinned (OpenSpec.ofChange fnExactClosureOfWrong)

/-- 'laws.FnExactProductOf': WHATEVER THE INPUT: true; the input reads as it did. -/
def fnExactProductOfSpec : ChangeSpec := { name := "fnExactProductOf", fn := fun _ => fun
  | [d1, d2] => { results := [.lit (.bool true)], args := [d1, d2] }
  | _ => none }
def fnExactProductOfRow : OpenClaim := { program := "ytlohldddioikaaa", sum := "d50c469403246a07ed6b9849f0ed4587dfa63790cfe53504c3803616a5dd9d84", func := "loop.example/g01323/laws.FnExactProductOf", spec := "fnExactProductOf", unfollowed := true, recurses := true, apart := false }
def FnExactProductOfSaid : Prop := fnExactProductOfRow.holds Try.pinned (OpenSpec.ofChange fnExactProductOfSpec)

/-- ITS FALSE NEIGHBOUR: 'it returns false'. Refute it at one input. -/
def fnExactProductOfWrong : ChangeSpec := { name := "fnExactProductOf", fn := fun _ => fun
  | [d1, d2] => { results := [.lit (.bool false)], args := [d1, d2] }
  | _ => none }
def FnExactProductOfWrongFalsely : Prop := fnExactProductOfRow.holds Try.pinned (OpenSpec.ofChange fnExactProductOfWrong)

/-- 'laws.FnExactProjectRelation': WHATEVER THE INPUT: true; the input reads as it did. -/
def fnExactProjectRelationSpec : ChangeSpec := { name := "fnExactProjectRelation", fn := fun _ => fun
  | [d1, d2] => { results := [.lit (.bool true)], args := [d1, d2] }
  | _ => none }
def fnExactProjectRelationRow : OpenClaim := { program := "ytlohldddioikaaa", sum := "d50c469403246a07ed6b9849f0ed4587dfa63790cfe53504c3803616a5dd9d84", func := "loop.example/g01323/laws.FnExactProjectRelation", spec := "fnExactProjectRelation", unfollowed := true, recurses := true, apart := false }
def FnExactProjectRelationSaid : Prop := fnExactProjectRelationRow.holds Try.pinned (OpenSpec.ofChange fnExactProjectRelationSpec)

/-- ITS FALSE NEIGHBOUR: 'it returns false'. Refute it at one input. -/
def fnExactProjectRelationWrong : ChangeSpec := { name := "fnExactProjectRelation", fn := fun _ => fun
  | [d1, d2] => { results := [.lit (.bool false)], args := [d1, d2] }
  | _ => none }
def FnExactProjectRelationWrongFalsely : Prop := fnExactProjectRelationRow.holds Try.pinned (OpenSpec.ofChange fnExactProjectRelationWrong)

/-- 'laws.FnExactIdentifyPlaces': WHATEVER THE INPUT: true; the input reads as it did. -/
def fnExactIdentifyPlacesSpec : ChangeSpec := { name := "fnExactIdentifyPlaces", fn := fun _ => fun
  | [d1, d2, d3] => { results := [.lit (.bool true)], args := [d1, d2, d3] }
  | _ => none }
def fnExactIdentifyPlacesRow : OpenClaim := { program := "ytlohldddioikaaa", sum := "d50c469403246a07ed6b9849f0ed4587dfa63790cfe53504c3803616a5dd9d84", func := "loop.example/g01323/laws.FnExactIdentifyPlaces", spec := "fnExactIdentifyPlaces", unfollowed := true, recurses := true, apart := false }
def FnExactIdentifyPlacesSaid : Prop := fnExactIdentifyPlacesRow.holds Try.pinned (OpenSpec.ofChange fnExactIdentifyPlacesSpec)

/-- ITS FALSE NEIGHBOUR: 'it returns false'. Refute it at one input. -/
def fnExactIdentifyPlacesWrong : ChangeSpec := { name := "fnExactIdentifyPlaces", fn := fun _ => fun
  | [d1, d2, d3] => { results := [.lit (.bool false)], args := [d1, d2, d3] }
  | _ => none }
def FnExactIdentifyPlacesWrongFalsely : Prop := fnExactIdentifyPlacesRow.holds Try.pinned (OpenSpec.ofChange fnExactIdentifyPlacesWrong)

/-- 'laws.FnExactMeetOf': WHATEVER THE INPUT: true; the input reads as it did. -/
def fnExactMeetOfSpec : ChangeSpec := { name := "fnExactMeetOf", fn := fun _ => fun
  | [d1, d2] => { results := [.lit (.bool true)], args := [d1, d2] }
  | _ => none }
def fnExactMeetOfRow : OpenClaim := { program := "ytlohldddioikaaa", sum := "d50c469403246a07ed6b9849f0ed4587dfa63790cfe53504c3803616a5dd9d84", func := "loop.example/g01323/laws.FnExactMeetOf", spec := "fnExactMeetOf", apart := false }
def FnExactMeetOfSaid : Prop := fnExactMeetOfRow.holds Try.pinned (OpenSpec.ofChange fnExactMeetOfSpec)

/-- ITS FALSE NEIGHBOUR: 'it returns false'. Refute it at one input. -/
def fnExactMeetOfWrong : ChangeSpec := { name := "fnExactMeetOf", fn := fun _ => fun
  | [d1, d2] => { results := [.lit (.bool false)], args := [d1, d2] }
  | _ => none }
def FnExactMeetOfWrongFalsely : Prop := fnExactMeetOfRow.holds Try.pinned (OpenSpec.ofChange fnExactMeetOfWrong)

/-- 'laws.FnExactGraphOf': WHATEVER THE INPUT: true; the input reads as it did. -/
def fnExactGraphOfSpec : ChangeSpec := { name := "fnExactGraphOf", fn := fun _ => fun
  | [d] => { results := [.lit (.bool true)], args := [d] }
  | _ => none }
def fnExactGraphOfRow : OpenClaim := { program := "ytlohldddioikaaa", sum := "d50c469403246a07ed6b9849f0ed4587dfa63790cfe53504c3803616a5dd9d84", func := "loop.example/g01323/laws.FnExactGraphOf", spec := "fnExactGraphOf", unfollowed := true, recurses := true, apart := false }
def FnExactGraphOfSaid : Prop := fnExactGraphOfRow.holds Try.pinned (OpenSpec.ofChange fnExactGraphOfSpec)

/-- ITS FALSE NEIGHBOUR: 'it returns false'. Refute it at one input. -/
def fnExactGraphOfWrong : ChangeSpec := { name := "fnExactGraphOf", fn := fun _ => fun
  | [d] => { results := [.lit (.bool false)], args := [d] }
  | _ => none }
def FnExactGraphOfWrongFalsely : Prop := fnExactGraphOfRow.holds Try.pinned (OpenSpec.ofChange fnExactGraphOfWrong)

/-- 'laws.FnExactPermuteFunc': WHATEVER THE INPUT: true; the input reads as it did. -/
def fnExactPermuteFuncSpec : ChangeSpec := { name := "fnExactPermuteFunc", fn := fun _ => fun
  | [d1, d2] => { results := [.lit (.bool true)], args := [d1, d2] }
  | _ => none }
def fnExactPermuteFuncRow : OpenClaim := { program := "ytlohldddioikaaa", sum := "d50c469403246a07ed6b9849f0ed4587dfa63790cfe53504c3803616a5dd9d84", func := "loop.example/g01323/laws.FnExactPermuteFunc", spec := "fnExactPermuteFunc", unfollowed := true, recurses := true, apart := false }
def FnExactPermuteFuncSaid : Prop := fnExactPermuteFuncRow.holds Try.pinned (OpenSpec.ofChange fnExactPermuteFuncSpec)

/-- ITS FALSE NEIGHBOUR: 'it returns false'. Refute it at one input. -/
def fnExactPermuteFuncWrong : ChangeSpec := { name := "fnExactPermuteFunc", fn := fun _ => fun
  | [d1, d2] => { results := [.lit (.bool false)], args := [d1, d2] }
  | _ => none }
def FnExactPermuteFuncWrongFalsely : Prop := fnExactPermuteFuncRow.holds Try.pinned (OpenSpec.ofChange fnExactPermuteFuncWrong)

/- THE SECOND FORM. 'bulk': how many values and letters a reading holds, each counted each time it is reached (what is shared counts as often as it is met; a slice's spare places count too). A statement '..UptoSaid' is the law's where the arguments, and the package variables that the reading takes, are together of bulk at most 1048576: NARROWER than '..Said'. Prove '..Said' where nothing that the law and all that it calls make is longer than what came in: it says more and counts as full. Else prove '..UptoSaid'. A law counts once. -/
mutual
def uptoBulk {H : Type} : DataW H → Nat
  | .lit (.string bytes) => bytes.length + 1
  | .lit _ => 1
  | .nil => 1
  | .ptr d => uptoBulk d + 1
  | .slice elems spare => uptoBulkAll elems + uptoBulkAll spare + 1
  | .agg parts => uptoBulkAll parts + 1
  | .iface _ d => uptoBulk d + 1
  | .map entries => uptoBulkEntries entries + 1
  | .held _ => 1
def uptoBulkAll {H : Type} : List (DataW H) → Nat
  | [] => 0
  | d :: r => uptoBulk d + uptoBulkAll r
def uptoBulkEntries {H : Type} : List (Lit × DataW H) → Nat
  | [] => 0
  | x :: r => uptoBulkEntry x + uptoBulkEntries r
def uptoBulkEntry {H : Type} : Lit × DataW H → Nat
  | (.string bytes, d) => bytes.length + uptoBulk d + 1
  | (_, d) => uptoBulk d + 1
 end
def uptoSmall : (H : Type) → List (DataW H) → Bool := fun _ ds => decide (uptoBulkAll ds ≤ 1048576)
def OpenSpec.upto (s : _root_.Go.ChangeSpec) : _root_.Go.OpenSpec := { _root_.Go.OpenSpec.ofChange s with cond := some uptoSmall }

/-- 'laws.FnExactIsRelation', WHERE WHAT IT READS IS OF BULK AT MOST 1048576: true; the input reads as it did. -/
def fnExactIsRelationUptoRow : OpenClaim := { program := "ytlohldddioikaaa", sum := "d50c469403246a07ed6b9849f0ed4587dfa63790cfe53504c3803616a5dd9d84", func := "loop.example/g01323/laws.FnExactIsRelation", spec := "fnExactIsRelation", apart := false, narrowed := true }
def FnExactIsRelationUptoSaid : Prop := fnExactIsRelationUptoRow.holds Try.pinned (OpenSpec.upto fnExactIsRelationSpec)

/-- 'laws.FnExactCountTuples', WHERE WHAT IT READS IS OF BULK AT MOST 1048576: true; the input reads as it did. -/
def fnExactCountTuplesUptoRow : OpenClaim := { program := "ytlohldddioikaaa", sum := "d50c469403246a07ed6b9849f0ed4587dfa63790cfe53504c3803616a5dd9d84", func := "loop.example/g01323/laws.FnExactCountTuples", spec := "fnExactCountTuples", apart := false, narrowed := true }
def FnExactCountTuplesUptoSaid : Prop := fnExactCountTuplesUptoRow.holds Try.pinned (OpenSpec.upto fnExactCountTuplesSpec)

/-- 'laws.FnExactKeepsRelation', WHERE WHAT IT READS IS OF BULK AT MOST 1048576: true; the input reads as it did. -/
def fnExactKeepsRelationUptoRow : OpenClaim := { program := "ytlohldddioikaaa", sum := "d50c469403246a07ed6b9849f0ed4587dfa63790cfe53504c3803616a5dd9d84", func := "loop.example/g01323/laws.FnExactKeepsRelation", spec := "fnExactKeepsRelation", unfollowed := true, recurses := true, apart := false, narrowed := true }
def FnExactKeepsRelationUptoSaid : Prop := fnExactKeepsRelationUptoRow.holds Try.pinned (OpenSpec.upto fnExactKeepsRelationSpec)

/-- 'laws.FnExactFunctionsKeeping', WHERE WHAT IT READS IS OF BULK AT MOST 1048576: true; the input reads as it did. -/
def fnExactFunctionsKeepingUptoRow : OpenClaim := { program := "ytlohldddioikaaa", sum := "d50c469403246a07ed6b9849f0ed4587dfa63790cfe53504c3803616a5dd9d84", func := "loop.example/g01323/laws.FnExactFunctionsKeeping", spec := "fnExactFunctionsKeeping", unfollowed := true, recurses := true, apart := false, narrowed := true }
def FnExactFunctionsKeepingUptoSaid : Prop := fnExactFunctionsKeepingUptoRow.holds Try.pinned (OpenSpec.upto fnExactFunctionsKeepingSpec)

/-- 'laws.FnExactRelationsKept', WHERE WHAT IT READS IS OF BULK AT MOST 1048576: true; the input reads as it did. -/
def fnExactRelationsKeptUptoRow : OpenClaim := { program := "ytlohldddioikaaa", sum := "d50c469403246a07ed6b9849f0ed4587dfa63790cfe53504c3803616a5dd9d84", func := "loop.example/g01323/laws.FnExactRelationsKept", spec := "fnExactRelationsKept", unfollowed := true, recurses := true, apart := false, narrowed := true }
def FnExactRelationsKeptUptoSaid : Prop := fnExactRelationsKeptUptoRow.holds Try.pinned (OpenSpec.upto fnExactRelationsKeptSpec)

/-- 'laws.FnExactClosureOf', WHERE WHAT IT READS IS OF BULK AT MOST 1048576: true; the input reads as it did. -/
def fnExactClosureOfUptoRow : OpenClaim := { program := "ytlohldddioikaaa", sum := "d50c469403246a07ed6b9849f0ed4587dfa63790cfe53504c3803616a5dd9d84", func := "loop.example/g01323/laws.FnExactClosureOf", spec := "fnExactClosureOf", unfollowed := true, recurses := true, apart := false, narrowed := true }
def FnExactClosureOfUptoSaid : Prop := fnExactClosureOfUptoRow.holds Try.pinned (OpenSpec.upto fnExactClosureOfSpec)

/-- 'laws.FnExactProductOf', WHERE WHAT IT READS IS OF BULK AT MOST 1048576: true; the input reads as it did. -/
def fnExactProductOfUptoRow : OpenClaim := { program := "ytlohldddioikaaa", sum := "d50c469403246a07ed6b9849f0ed4587dfa63790cfe53504c3803616a5dd9d84", func := "loop.example/g01323/laws.FnExactProductOf", spec := "fnExactProductOf", unfollowed := true, recurses := true, apart := false, narrowed := true }
def FnExactProductOfUptoSaid : Prop := fnExactProductOfUptoRow.holds Try.pinned (OpenSpec.upto fnExactProductOfSpec)

/-- 'laws.FnExactProjectRelation', WHERE WHAT IT READS IS OF BULK AT MOST 1048576: true; the input reads as it did. -/
def fnExactProjectRelationUptoRow : OpenClaim := { program := "ytlohldddioikaaa", sum := "d50c469403246a07ed6b9849f0ed4587dfa63790cfe53504c3803616a5dd9d84", func := "loop.example/g01323/laws.FnExactProjectRelation", spec := "fnExactProjectRelation", unfollowed := true, recurses := true, apart := false, narrowed := true }
def FnExactProjectRelationUptoSaid : Prop := fnExactProjectRelationUptoRow.holds Try.pinned (OpenSpec.upto fnExactProjectRelationSpec)

/-- 'laws.FnExactIdentifyPlaces', WHERE WHAT IT READS IS OF BULK AT MOST 1048576: true; the input reads as it did. -/
def fnExactIdentifyPlacesUptoRow : OpenClaim := { program := "ytlohldddioikaaa", sum := "d50c469403246a07ed6b9849f0ed4587dfa63790cfe53504c3803616a5dd9d84", func := "loop.example/g01323/laws.FnExactIdentifyPlaces", spec := "fnExactIdentifyPlaces", unfollowed := true, recurses := true, apart := false, narrowed := true }
def FnExactIdentifyPlacesUptoSaid : Prop := fnExactIdentifyPlacesUptoRow.holds Try.pinned (OpenSpec.upto fnExactIdentifyPlacesSpec)

/-- 'laws.FnExactMeetOf', WHERE WHAT IT READS IS OF BULK AT MOST 1048576: true; the input reads as it did. -/
def fnExactMeetOfUptoRow : OpenClaim := { program := "ytlohldddioikaaa", sum := "d50c469403246a07ed6b9849f0ed4587dfa63790cfe53504c3803616a5dd9d84", func := "loop.example/g01323/laws.FnExactMeetOf", spec := "fnExactMeetOf", apart := false, narrowed := true }
def FnExactMeetOfUptoSaid : Prop := fnExactMeetOfUptoRow.holds Try.pinned (OpenSpec.upto fnExactMeetOfSpec)

/-- 'laws.FnExactGraphOf', WHERE WHAT IT READS IS OF BULK AT MOST 1048576: true; the input reads as it did. -/
def fnExactGraphOfUptoRow : OpenClaim := { program := "ytlohldddioikaaa", sum := "d50c469403246a07ed6b9849f0ed4587dfa63790cfe53504c3803616a5dd9d84", func := "loop.example/g01323/laws.FnExactGraphOf", spec := "fnExactGraphOf", unfollowed := true, recurses := true, apart := false, narrowed := true }
def FnExactGraphOfUptoSaid : Prop := fnExactGraphOfUptoRow.holds Try.pinned (OpenSpec.upto fnExactGraphOfSpec)

/-- 'laws.FnExactPermuteFunc', WHERE WHAT IT READS IS OF BULK AT MOST 1048576: true; the input reads as it did. -/
def fnExactPermuteFuncUptoRow : OpenClaim := { program := "ytlohldddioikaaa", sum := "d50c469403246a07ed6b9849f0ed4587dfa63790cfe53504c3803616a5dd9d84", func := "loop.example/g01323/laws.FnExactPermuteFunc", spec := "fnExactPermuteFunc", unfollowed := true, recurses := true, apart := false, narrowed := true }
def FnExactPermuteFuncUptoSaid : Prop := fnExactPermuteFuncUptoRow.holds Try.pinned (OpenSpec.upto fnExactPermuteFuncSpec)

end Rows
end Go.Proofs.Ytlohldddioikaaa
