/-
  No cell of these rows narrows 'for every input' (looked for: loops, veiled, ifaces, maps, wideKeys, modest, calm, conditions, laid).
  DERIVED. THE GIVEN ROWS OF THIS SEAT. 9 by the template 'for every input the law returns true; each argument reads behind the call as it read before'; 0 by the template 'total and deterministic' (their statements: YtdgpjpcdifpllaaTotals.lean).
  GIVEN WITH THE SEED: the statements are not yours to turn. If you find one false, say at which input.
  Laid BY PROGRAM, IN A SANDBOX (cutbox-rows.mjs): the forced cells as the released guide's own fill.sh prints them over the translation 2dab678715e9dc4d… (all of the seat's roots in one cut). By AI agents, Wed Nov 11 2026. No macro, syntax, notation, axiom, sorry.
-/
import Derived.Test.YtdgpjpcdifpllaaChecked
import GoSem.Claim
import GoSem.ClaimJoined
import GoSem.ClaimMapViews
import Derived.JoinedTies
import Derived.KernelRfl
namespace Go.Proofs.Ytdgpjpcdifpllaa
/- THE CELL 'sum', in the pinned program and in every row, IS THE sha256 OF THE DUMP (.gsa) THAT YtdgpjpcdifpllaaProg.lean LOADS. Nothing in Lean hashes anything: it is a label: what it is worth is what the hold of that sum in a sandbox is worth. -/
noncomputable def Try.pinned : Pinned := { name := "ytdgpjpcdifpllaa", sum := "2dab678715e9dc4d27f0b4810058da0622b2ad758cf460e153f0d1b714dae77a", checked := Try.checked }
namespace Rows
def none {H : Type} : Left H := { results := [], args := [] }

/-- 'laws.FnExactNewDesk': WHATEVER THE INPUT: true; the input reads as it did. -/
def fnExactNewDeskSpec : ChangeSpec := { name := "fnExactNewDesk", fn := fun _ => fun
  | [] => { results := [.lit (.bool true)], args := [] }
  | _ => none }
def fnExactNewDeskRow : OpenClaim := { program := "ytdgpjpcdifpllaa", sum := "2dab678715e9dc4d27f0b4810058da0622b2ad758cf460e153f0d1b714dae77a", func := "loop.example/g01323/laws.FnExactNewDesk", spec := "fnExactNewDesk", inPlace := ["internal/bytealg.IndexByteString", "internal/bytealg.IndexString"], unfollowed := true, recurses := true, named := ["internal/bytealg.MaxLen"], plainKeys := false, apart := false }
def FnExactNewDeskSaid : Prop := fnExactNewDeskRow.holds Try.pinned (OpenSpec.ofChange fnExactNewDeskSpec)

/-- ITS FALSE NEIGHBOUR: 'it returns false'. Refute it at one input. -/
def fnExactNewDeskWrong : ChangeSpec := { name := "fnExactNewDesk", fn := fun _ => fun
  | [] => { results := [.lit (.bool false)], args := [] }
  | _ => none }
def FnExactNewDeskWrongFalsely : Prop := fnExactNewDeskRow.holds Try.pinned (OpenSpec.ofChange fnExactNewDeskWrong)

/-- 'laws.FnExactIsDesk': WHATEVER THE INPUT: true; the input reads as it did. -/
def fnExactIsDeskSpec : ChangeSpec := { name := "fnExactIsDesk", fn := fun _ => fun
  | [d] => { results := [.lit (.bool true)], args := [d] }
  | _ => none }
def fnExactIsDeskRow : OpenClaim := { program := "ytdgpjpcdifpllaa", sum := "2dab678715e9dc4d27f0b4810058da0622b2ad758cf460e153f0d1b714dae77a", func := "loop.example/g01323/laws.FnExactIsDesk", spec := "fnExactIsDesk", plainKeys := false, apart := false }
def FnExactIsDeskSaid : Prop := fnExactIsDeskRow.holds Try.pinned (OpenSpec.ofChange fnExactIsDeskSpec)

/-- ITS FALSE NEIGHBOUR: 'it returns false'. Refute it at one input. -/
def fnExactIsDeskWrong : ChangeSpec := { name := "fnExactIsDesk", fn := fun _ => fun
  | [d] => { results := [.lit (.bool false)], args := [d] }
  | _ => none }
def FnExactIsDeskWrongFalsely : Prop := fnExactIsDeskRow.holds Try.pinned (OpenSpec.ofChange fnExactIsDeskWrong)

/-- 'laws.FnExactCentraliserOf': WHATEVER THE INPUT: true; the input reads as it did. -/
def fnExactCentraliserOfSpec : ChangeSpec := { name := "fnExactCentraliserOf", fn := fun _ => fun
  | [d1, d2] => { results := [.lit (.bool true)], args := [d1, d2] }
  | _ => none }
def fnExactCentraliserOfRow : OpenClaim := { program := "ytdgpjpcdifpllaa", sum := "2dab678715e9dc4d27f0b4810058da0622b2ad758cf460e153f0d1b714dae77a", func := "loop.example/g01323/laws.FnExactCentraliserOf", spec := "fnExactCentraliserOf", unfollowed := true, recurses := true, plainKeys := false, apart := false }
def FnExactCentraliserOfSaid : Prop := fnExactCentraliserOfRow.holds Try.pinned (OpenSpec.ofChange fnExactCentraliserOfSpec)

/-- ITS FALSE NEIGHBOUR: 'it returns false'. Refute it at one input. -/
def fnExactCentraliserOfWrong : ChangeSpec := { name := "fnExactCentraliserOf", fn := fun _ => fun
  | [d1, d2] => { results := [.lit (.bool false)], args := [d1, d2] }
  | _ => none }
def FnExactCentraliserOfWrongFalsely : Prop := fnExactCentraliserOfRow.holds Try.pinned (OpenSpec.ofChange fnExactCentraliserOfWrong)

/-- 'laws.FnRelationParts': WHATEVER THE INPUT: true; the input reads as it did. -/
def fnRelationPartsSpec : ChangeSpec := { name := "fnRelationParts", fn := fun _ => fun
  | [d] => { results := [.lit (.bool true)], args := [d] }
  | _ => none }
def fnRelationPartsRow : OpenClaim := { program := "ytdgpjpcdifpllaa", sum := "2dab678715e9dc4d27f0b4810058da0622b2ad758cf460e153f0d1b714dae77a", func := "loop.example/g01323/laws.FnRelationParts", spec := "fnRelationParts", unfollowed := true, recurses := true, plainKeys := false, apart := false }
def FnRelationPartsSaid : Prop := fnRelationPartsRow.holds Try.pinned (OpenSpec.ofChange fnRelationPartsSpec)

/-- ITS FALSE NEIGHBOUR: 'it returns false'. Refute it at one input. -/
def fnRelationPartsWrong : ChangeSpec := { name := "fnRelationParts", fn := fun _ => fun
  | [d] => { results := [.lit (.bool false)], args := [d] }
  | _ => none }
def FnRelationPartsWrongFalsely : Prop := fnRelationPartsRow.holds Try.pinned (OpenSpec.ofChange fnRelationPartsWrong)

/-- 'laws.FnExactNarrowDomains': WHATEVER THE INPUT: true; the input reads as it did. -/
def fnExactNarrowDomainsSpec : ChangeSpec := { name := "fnExactNarrowDomains", fn := fun _ => fun
  | [d1, d2] => { results := [.lit (.bool true)], args := [d1, d2] }
  | _ => none }
def fnExactNarrowDomainsRow : OpenClaim := { program := "ytdgpjpcdifpllaa", sum := "2dab678715e9dc4d27f0b4810058da0622b2ad758cf460e153f0d1b714dae77a", func := "loop.example/g01323/laws.FnExactNarrowDomains", spec := "fnExactNarrowDomains", unfollowed := true, recurses := true, plainKeys := false, apart := false }
def FnExactNarrowDomainsSaid : Prop := fnExactNarrowDomainsRow.holds Try.pinned (OpenSpec.ofChange fnExactNarrowDomainsSpec)

/-- ITS FALSE NEIGHBOUR: 'it returns false'. Refute it at one input. -/
def fnExactNarrowDomainsWrong : ChangeSpec := { name := "fnExactNarrowDomains", fn := fun _ => fun
  | [d1, d2] => { results := [.lit (.bool false)], args := [d1, d2] }
  | _ => none }
def FnExactNarrowDomainsWrongFalsely : Prop := fnExactNarrowDomainsRow.holds Try.pinned (OpenSpec.ofChange fnExactNarrowDomainsWrong)

/-- 'laws.FnExactCloneNames': WHATEVER THE INPUT: true; the input reads as it did. -/
def fnExactCloneNamesSpec : ChangeSpec := { name := "fnExactCloneNames", fn := fun _ => fun
  | [] => { results := [.lit (.bool true)], args := [] }
  | _ => none }
def fnExactCloneNamesRow : OpenClaim := { program := "ytdgpjpcdifpllaa", sum := "2dab678715e9dc4d27f0b4810058da0622b2ad758cf460e153f0d1b714dae77a", func := "loop.example/g01323/laws.FnExactCloneNames", spec := "fnExactCloneNames", recurses := true, plainKeys := false, apart := false }
def FnExactCloneNamesSaid : Prop := fnExactCloneNamesRow.holds Try.pinned (OpenSpec.ofChange fnExactCloneNamesSpec)

/-- ITS FALSE NEIGHBOUR: 'it returns false'. Refute it at one input. -/
def fnExactCloneNamesWrong : ChangeSpec := { name := "fnExactCloneNames", fn := fun _ => fun
  | [] => { results := [.lit (.bool false)], args := [] }
  | _ => none }
def FnExactCloneNamesWrongFalsely : Prop := fnExactCloneNamesRow.holds Try.pinned (OpenSpec.ofChange fnExactCloneNamesWrong)

/-- 'laws.FnExactBasesOf': WHATEVER THE INPUT: true; the input reads as it did. -/
def fnExactBasesOfSpec : ChangeSpec := { name := "fnExactBasesOf", fn := fun _ => fun
  | [d] => { results := [.lit (.bool true)], args := [d] }
  | _ => none }
def fnExactBasesOfRow : OpenClaim := { program := "ytdgpjpcdifpllaa", sum := "2dab678715e9dc4d27f0b4810058da0622b2ad758cf460e153f0d1b714dae77a", func := "loop.example/g01323/laws.FnExactBasesOf", spec := "fnExactBasesOf", unfollowed := true, recurses := true, plainKeys := false, apart := false }
def FnExactBasesOfSaid : Prop := fnExactBasesOfRow.holds Try.pinned (OpenSpec.ofChange fnExactBasesOfSpec)

/-- ITS FALSE NEIGHBOUR: 'it returns false'. Refute it at one input. -/
def fnExactBasesOfWrong : ChangeSpec := { name := "fnExactBasesOf", fn := fun _ => fun
  | [d] => { results := [.lit (.bool false)], args := [d] }
  | _ => none }
def FnExactBasesOfWrongFalsely : Prop := fnExactBasesOfRow.holds Try.pinned (OpenSpec.ofChange fnExactBasesOfWrong)

/-- 'laws.FnExactWeighingOf': WHATEVER THE INPUT: true; the input reads as it did. -/
def fnExactWeighingOfSpec : ChangeSpec := { name := "fnExactWeighingOf", fn := fun _ => fun
  | [d] => { results := [.lit (.bool true)], args := [d] }
  | _ => none }
def fnExactWeighingOfRow : OpenClaim := { program := "ytdgpjpcdifpllaa", sum := "2dab678715e9dc4d27f0b4810058da0622b2ad758cf460e153f0d1b714dae77a", func := "loop.example/g01323/laws.FnExactWeighingOf", spec := "fnExactWeighingOf", unfollowed := true, recurses := true, plainKeys := false, apart := false }
def FnExactWeighingOfSaid : Prop := fnExactWeighingOfRow.holds Try.pinned (OpenSpec.ofChange fnExactWeighingOfSpec)

/-- ITS FALSE NEIGHBOUR: 'it returns false'. Refute it at one input. -/
def fnExactWeighingOfWrong : ChangeSpec := { name := "fnExactWeighingOf", fn := fun _ => fun
  | [d] => { results := [.lit (.bool false)], args := [d] }
  | _ => none }
def FnExactWeighingOfWrongFalsely : Prop := fnExactWeighingOfRow.holds Try.pinned (OpenSpec.ofChange fnExactWeighingOfWrong)

/-- 'laws.FnExactCountThreshold': WHATEVER THE INPUT: true; the input reads as it did. -/
def fnExactCountThresholdSpec : ChangeSpec := { name := "fnExactCountThreshold", fn := fun _ => fun
  | [d] => { results := [.lit (.bool true)], args := [d] }
  | _ => none }
def fnExactCountThresholdRow : OpenClaim := { program := "ytdgpjpcdifpllaa", sum := "2dab678715e9dc4d27f0b4810058da0622b2ad758cf460e153f0d1b714dae77a", func := "loop.example/g01323/laws.FnExactCountThreshold", spec := "fnExactCountThreshold", unfollowed := true, recurses := true, plainKeys := false, apart := false }
def FnExactCountThresholdSaid : Prop := fnExactCountThresholdRow.holds Try.pinned (OpenSpec.ofChange fnExactCountThresholdSpec)

/-- ITS FALSE NEIGHBOUR: 'it returns false'. Refute it at one input. -/
def fnExactCountThresholdWrong : ChangeSpec := { name := "fnExactCountThreshold", fn := fun _ => fun
  | [d] => { results := [.lit (.bool false)], args := [d] }
  | _ => none }
def FnExactCountThresholdWrongFalsely : Prop := fnExactCountThresholdRow.holds Try.pinned (OpenSpec.ofChange fnExactCountThresholdWrong)

/- THE SECOND FORM. 'bulk': how many values and letters a reading holds, each counted each time it is reached (what is shared counts as often as it is met; a slice's spare places count too). A statement '..UptoSaid' is the law's where the arguments, and the package variables that the reading takes, are together of bulk at most 1048576: NARROWER than '..Said'. Prove '..Said' where nothing that the law and all that it calls make is longer than what came in: it says more and counts as full. Else prove '..UptoSaid'. A law counts once. -/
mutual
def uptoBulk {H : Type} : DataW H → Nat
  | .lit (.string bytes) => bytes.length + 1
  | .lit _ => 1
  | .nil => 1
  | .ptr d => uptoBulk d + 1
  | .slice elems spare => uptoBulkAll elems + uptoBulkAll spare + 1
  | .agg parts => uptoBulkAll parts + 1
  | .iface _ d => uptoBulk d + 1
  | .map entries => uptoBulkEntries entries + 1
  | .held _ => 1
def uptoBulkAll {H : Type} : List (DataW H) → Nat
  | [] => 0
  | d :: r => uptoBulk d + uptoBulkAll r
def uptoBulkEntries {H : Type} : List (Lit × DataW H) → Nat
  | [] => 0
  | x :: r => uptoBulkEntry x + uptoBulkEntries r
def uptoBulkEntry {H : Type} : Lit × DataW H → Nat
  | (.string bytes, d) => bytes.length + uptoBulk d + 1
  | (_, d) => uptoBulk d + 1
 end
def uptoSmall : (H : Type) → List (DataW H) → Bool := fun _ ds => decide (uptoBulkAll ds ≤ 1048576)
def OpenSpec.upto (s : _root_.Go.ChangeSpec) : _root_.Go.OpenSpec := { _root_.Go.OpenSpec.ofChange s with cond := some uptoSmall }

/-- 'laws.FnExactNewDesk', WHERE WHAT IT READS IS OF BULK AT MOST 1048576: true; the input reads as it did. -/
def fnExactNewDeskUptoRow : OpenClaim := { program := "ytdgpjpcdifpllaa", sum := "2dab678715e9dc4d27f0b4810058da0622b2ad758cf460e153f0d1b714dae77a", func := "loop.example/g01323/laws.FnExactNewDesk", spec := "fnExactNewDesk", inPlace := ["internal/bytealg.IndexByteString", "internal/bytealg.IndexString"], unfollowed := true, recurses := true, named := ["internal/bytealg.MaxLen"], plainKeys := false, apart := false, narrowed := true }
def FnExactNewDeskUptoSaid : Prop := fnExactNewDeskUptoRow.holds Try.pinned (OpenSpec.upto fnExactNewDeskSpec)

/-- 'laws.FnExactIsDesk', WHERE WHAT IT READS IS OF BULK AT MOST 1048576: true; the input reads as it did. -/
def fnExactIsDeskUptoRow : OpenClaim := { program := "ytdgpjpcdifpllaa", sum := "2dab678715e9dc4d27f0b4810058da0622b2ad758cf460e153f0d1b714dae77a", func := "loop.example/g01323/laws.FnExactIsDesk", spec := "fnExactIsDesk", plainKeys := false, apart := false, narrowed := true }
def FnExactIsDeskUptoSaid : Prop := fnExactIsDeskUptoRow.holds Try.pinned (OpenSpec.upto fnExactIsDeskSpec)

/-- 'laws.FnExactCentraliserOf', WHERE WHAT IT READS IS OF BULK AT MOST 1048576: true; the input reads as it did. -/
def fnExactCentraliserOfUptoRow : OpenClaim := { program := "ytdgpjpcdifpllaa", sum := "2dab678715e9dc4d27f0b4810058da0622b2ad758cf460e153f0d1b714dae77a", func := "loop.example/g01323/laws.FnExactCentraliserOf", spec := "fnExactCentraliserOf", unfollowed := true, recurses := true, plainKeys := false, apart := false, narrowed := true }
def FnExactCentraliserOfUptoSaid : Prop := fnExactCentraliserOfUptoRow.holds Try.pinned (OpenSpec.upto fnExactCentraliserOfSpec)

/-- 'laws.FnRelationParts', WHERE WHAT IT READS IS OF BULK AT MOST 1048576: true; the input reads as it did. -/
def fnRelationPartsUptoRow : OpenClaim := { program := "ytdgpjpcdifpllaa", sum := "2dab678715e9dc4d27f0b4810058da0622b2ad758cf460e153f0d1b714dae77a", func := "loop.example/g01323/laws.FnRelationParts", spec := "fnRelationParts", unfollowed := true, recurses := true, plainKeys := false, apart := false, narrowed := true }
def FnRelationPartsUptoSaid : Prop := fnRelationPartsUptoRow.holds Try.pinned (OpenSpec.upto fnRelationPartsSpec)

/-- 'laws.FnExactNarrowDomains', WHERE WHAT IT READS IS OF BULK AT MOST 1048576: true; the input reads as it did. -/
def fnExactNarrowDomainsUptoRow : OpenClaim := { program := "ytdgpjpcdifpllaa", sum := "2dab678715e9dc4d27f0b4810058da0622b2ad758cf460e153f0d1b714dae77a", func := "loop.example/g01323/laws.FnExactNarrowDomains", spec := "fnExactNarrowDomains", unfollowed := true, recurses := true, plainKeys := false, apart := false, narrowed := true }
def FnExactNarrowDomainsUptoSaid : Prop := fnExactNarrowDomainsUptoRow.holds Try.pinned (OpenSpec.upto fnExactNarrowDomainsSpec)

/-- 'laws.FnExactCloneNames', WHERE WHAT IT READS IS OF BULK AT MOST 1048576: true; the input reads as it did. -/
def fnExactCloneNamesUptoRow : OpenClaim := { program := "ytdgpjpcdifpllaa", sum := "2dab678715e9dc4d27f0b4810058da0622b2ad758cf460e153f0d1b714dae77a", func := "loop.example/g01323/laws.FnExactCloneNames", spec := "fnExactCloneNames", recurses := true, plainKeys := false, apart := false, narrowed := true }
def FnExactCloneNamesUptoSaid : Prop := fnExactCloneNamesUptoRow.holds Try.pinned (OpenSpec.upto fnExactCloneNamesSpec)

/-- 'laws.FnExactBasesOf', WHERE WHAT IT READS IS OF BULK AT MOST 1048576: true; the input reads as it did. -/
def fnExactBasesOfUptoRow : OpenClaim := { program := "ytdgpjpcdifpllaa", sum := "2dab678715e9dc4d27f0b4810058da0622b2ad758cf460e153f0d1b714dae77a", func := "loop.example/g01323/laws.FnExactBasesOf", spec := "fnExactBasesOf", unfollowed := true, recurses := true, plainKeys := false, apart := false, narrowed := true }
def FnExactBasesOfUptoSaid : Prop := fnExactBasesOfUptoRow.holds Try.pinned (OpenSpec.upto fnExactBasesOfSpec)

/-- 'laws.FnExactWeighingOf', WHERE WHAT IT READS IS OF BULK AT MOST 1048576: true; the input reads as it did. -/
def fnExactWeighingOfUptoRow : OpenClaim := { program := "ytdgpjpcdifpllaa", sum := "2dab678715e9dc4d27f0b4810058da0622b2ad758cf460e153f0d1b714dae77a", func := "loop.example/g01323/laws.FnExactWeighingOf", spec := "fnExactWeighingOf", unfollowed := true, recurses := true, plainKeys := false, apart := false, narrowed := true }
def FnExactWeighingOfUptoSaid : Prop := fnExactWeighingOfUptoRow.holds Try.pinned (OpenSpec.upto fnExactWeighingOfSpec)

/-- 'laws.FnExactCountThreshold', WHERE WHAT IT READS IS OF BULK AT MOST 1048576: true; the input reads as it did. -/
def fnExactCountThresholdUptoRow : OpenClaim := { program := "ytdgpjpcdifpllaa", sum := "2dab678715e9dc4d27f0b4810058da0622b2ad758cf460e153f0d1b714dae77a", func := "loop.example/g01323/laws.FnExactCountThreshold", spec := "fnExactCountThreshold", unfollowed := true, recurses := true, plainKeys := false, apart := false, narrowed := true }
def FnExactCountThresholdUptoSaid : Prop := fnExactCountThresholdUptoRow.holds Try.pinned (OpenSpec.upto fnExactCountThresholdSpec)

end Rows
end Go.Proofs.Ytdgpjpcdifpllaa
