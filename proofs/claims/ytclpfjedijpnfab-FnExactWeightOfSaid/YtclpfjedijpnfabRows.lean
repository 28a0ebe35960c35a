/-
  No cell of these rows narrows 'for every input' (looked for: loops, veiled, ifaces, maps, wideKeys, modest, calm, conditions, laid).
  DERIVED. THE GIVEN ROWS OF THIS SEAT. 8 by the template 'for every input the law returns true; each argument reads behind the call as it read before'; 0 by the template 'total and deterministic' (their statements: YtclpfjedijpnfabTotals.lean).
  GIVEN WITH THE SEED: the statements are not yours to turn. If you find one false, say at which input.
  Laid BY PROGRAM, IN A SANDBOX (cutbox-rows.mjs): the forced cells as the released guide's own fill.sh prints them over the translation fb50143ed172abc5… (all of the seat's roots in one cut). By AI agents, Wed Nov 11 2026. No macro, syntax, notation, axiom, sorry.
-/
import Derived.Test.YtclpfjedijpnfabChecked
import GoSem.Claim
import GoSem.ClaimJoined
import GoSem.ClaimMapViews
import Derived.JoinedTies
import Derived.KernelRfl
namespace Go.Proofs.Ytclpfjedijpnfab
/- THE CELL 'sum', in the pinned program and in every row, IS THE sha256 OF THE DUMP (.gsa) THAT YtclpfjedijpnfabProg.lean LOADS. Nothing in Lean hashes anything: it is a label: what it is worth is what the hold of that sum in a sandbox is worth. -/
noncomputable def Try.pinned : Pinned := { name := "ytclpfjedijpnfab", sum := "fb50143ed172abc576e57fb309c9616bab9fb00d3ca2141bca8a5e6756268738", checked := Try.checked }
namespace Rows
def none {H : Type} : Left H := { results := [], args := [] }

/-- 'laws.FnExactCoreOf': WHATEVER THE INPUT: true; the input reads as it did. -/
def fnExactCoreOfSpec : ChangeSpec := { name := "fnExactCoreOf", fn := fun _ => fun
  | [d] => { results := [.lit (.bool true)], args := [d] }
  | _ => none }
def fnExactCoreOfRow : OpenClaim := { program := "ytclpfjedijpnfab", sum := "fb50143ed172abc576e57fb309c9616bab9fb00d3ca2141bca8a5e6756268738", func := "loop.example/g01323/laws.FnExactCoreOf", spec := "fnExactCoreOf", unfollowed := true, recurses := true, plainKeys := false, apart := false }
def FnExactCoreOfSaid : Prop := fnExactCoreOfRow.holds Try.pinned (OpenSpec.ofChange fnExactCoreOfSpec)

/-- ITS FALSE NEIGHBOUR: 'it returns false'. Refute it at one input. -/
def fnExactCoreOfWrong : ChangeSpec := { name := "fnExactCoreOf", fn := fun _ => fun
  | [d] => { results := [.lit (.bool false)], args := [d] }
  | _ => none }
def FnExactCoreOfWrongFalsely : Prop := fnExactCoreOfRow.holds Try.pinned (OpenSpec.ofChange fnExactCoreOfWrong)

/-- 'laws.FnExactNegateFunc': WHATEVER THE INPUT: true; the input reads as it did. -/
def fnExactNegateFuncSpec : ChangeSpec := { name := "fnExactNegateFunc", fn := fun _ => fun
  | [d] => { results := [.lit (.bool true)], args := [d] }
  | _ => none }
def fnExactNegateFuncRow : OpenClaim := { program := "ytclpfjedijpnfab", sum := "fb50143ed172abc576e57fb309c9616bab9fb00d3ca2141bca8a5e6756268738", func := "loop.example/g01323/laws.FnExactNegateFunc", spec := "fnExactNegateFunc", unfollowed := true, recurses := true, plainKeys := false, apart := false }
def FnExactNegateFuncSaid : Prop := fnExactNegateFuncRow.holds Try.pinned (OpenSpec.ofChange fnExactNegateFuncSpec)

/-- ITS FALSE NEIGHBOUR: 'it returns false'. Refute it at one input. -/
def fnExactNegateFuncWrong : ChangeSpec := { name := "fnExactNegateFunc", fn := fun _ => fun
  | [d] => { results := [.lit (.bool false)], args := [d] }
  | _ => none }
def FnExactNegateFuncWrongFalsely : Prop := fnExactNegateFuncRow.holds Try.pinned (OpenSpec.ofChange fnExactNegateFuncWrong)

/-- 'laws.FnExactDualOf': WHATEVER THE INPUT: true; the input reads as it did. -/
def fnExactDualOfSpec : ChangeSpec := { name := "fnExactDualOf", fn := fun _ => fun
  | [d] => { results := [.lit (.bool true)], args := [d] }
  | _ => none }
def fnExactDualOfRow : OpenClaim := { program := "ytclpfjedijpnfab", sum := "fb50143ed172abc576e57fb309c9616bab9fb00d3ca2141bca8a5e6756268738", func := "loop.example/g01323/laws.FnExactDualOf", spec := "fnExactDualOf", unfollowed := true, recurses := true, plainKeys := false, apart := false }
def FnExactDualOfSaid : Prop := fnExactDualOfRow.holds Try.pinned (OpenSpec.ofChange fnExactDualOfSpec)

/-- ITS FALSE NEIGHBOUR: 'it returns false'. Refute it at one input. -/
def fnExactDualOfWrong : ChangeSpec := { name := "fnExactDualOf", fn := fun _ => fun
  | [d] => { results := [.lit (.bool false)], args := [d] }
  | _ => none }
def FnExactDualOfWrongFalsely : Prop := fnExactDualOfRow.holds Try.pinned (OpenSpec.ofChange fnExactDualOfWrong)

/-- 'laws.FnExactWeightOf': WHATEVER THE INPUT: true; the input reads as it did. -/
def fnExactWeightOfSpec : ChangeSpec := { name := "fnExactWeightOf", fn := fun _ => fun
  | [d] => { results := [.lit (.bool true)], args := [d] }
  | _ => none }
def fnExactWeightOfRow : OpenClaim := { program := "ytclpfjedijpnfab", sum := "fb50143ed172abc576e57fb309c9616bab9fb00d3ca2141bca8a5e6756268738", func := "loop.example/g01323/laws.FnExactWeightOf", spec := "fnExactWeightOf", plainKeys := false, apart := false }
def FnExactWeightOfSaid : Prop := fnExactWeightOfRow.holds Try.pinned (OpenSpec.ofChange fnExactWeightOfSpec)

/-- ITS FALSE NEIGHBOUR: 'it returns false'. Refute it at one input. -/
def fnExactWeightOfWrong : ChangeSpec := { name := "fnExactWeightOf", fn := fun _ => fun
  | [d] => { results := [.lit (.bool false)], args := [d] }
  | _ => none }
def FnExactWeightOfWrongFalsely : Prop := fnExactWeightOfRow.holds Try.pinned (OpenSpec.ofChange fnExactWeightOfWrong)

/-- 'laws.FnExactNamedFunc': WHATEVER THE INPUT: true; the input reads as it did. -/
def fnExactNamedFuncSpec : ChangeSpec := { name := "fnExactNamedFunc", fn := fun _ => fun
  | [d] => { results := [.lit (.bool true)], args := [d] }
  | _ => none }
def fnExactNamedFuncRow : OpenClaim := { program := "ytclpfjedijpnfab", sum := "fb50143ed172abc576e57fb309c9616bab9fb00d3ca2141bca8a5e6756268738", func := "loop.example/g01323/laws.FnExactNamedFunc", spec := "fnExactNamedFunc", plainKeys := false, apart := false }
def FnExactNamedFuncSaid : Prop := fnExactNamedFuncRow.holds Try.pinned (OpenSpec.ofChange fnExactNamedFuncSpec)

/-- ITS FALSE NEIGHBOUR: 'it returns false'. Refute it at one input. -/
def fnExactNamedFuncWrong : ChangeSpec := { name := "fnExactNamedFunc", fn := fun _ => fun
  | [d] => { results := [.lit (.bool false)], args := [d] }
  | _ => none }
def FnExactNamedFuncWrongFalsely : Prop := fnExactNamedFuncRow.holds Try.pinned (OpenSpec.ofChange fnExactNamedFuncWrong)

/-- 'laws.FnExactNameOf': WHATEVER THE INPUT: true; the input reads as it did. -/
def fnExactNameOfSpec : ChangeSpec := { name := "fnExactNameOf", fn := fun _ => fun
  | [d] => { results := [.lit (.bool true)], args := [d] }
  | _ => none }
def fnExactNameOfRow : OpenClaim := { program := "ytclpfjedijpnfab", sum := "fb50143ed172abc576e57fb309c9616bab9fb00d3ca2141bca8a5e6756268738", func := "loop.example/g01323/laws.FnExactNameOf", spec := "fnExactNameOf", recurses := true, plainKeys := false, apart := false }
def FnExactNameOfSaid : Prop := fnExactNameOfRow.holds Try.pinned (OpenSpec.ofChange fnExactNameOfSpec)

/-- ITS FALSE NEIGHBOUR: 'it returns false'. Refute it at one input. -/
def fnExactNameOfWrong : ChangeSpec := { name := "fnExactNameOf", fn := fun _ => fun
  | [d] => { results := [.lit (.bool false)], args := [d] }
  | _ => none }
def FnExactNameOfWrongFalsely : Prop := fnExactNameOfRow.holds Try.pinned (OpenSpec.ofChange fnExactNameOfWrong)

/-- 'laws.FnExactFuncText': WHATEVER THE INPUT: true; the input reads as it did. -/
def fnExactFuncTextSpec : ChangeSpec := { name := "fnExactFuncText", fn := fun _ => fun
  | [d] => { results := [.lit (.bool true)], args := [d] }
  | _ => none }
def fnExactFuncTextRow : OpenClaim := { program := "ytclpfjedijpnfab", sum := "fb50143ed172abc576e57fb309c9616bab9fb00d3ca2141bca8a5e6756268738", func := "loop.example/g01323/laws.FnExactFuncText", spec := "fnExactFuncText", unfollowed := true, recurses := true, plainKeys := false, apart := false }
def FnExactFuncTextSaid : Prop := fnExactFuncTextRow.holds Try.pinned (OpenSpec.ofChange fnExactFuncTextSpec)

/-- ITS FALSE NEIGHBOUR: 'it returns false'. Refute it at one input. -/
def fnExactFuncTextWrong : ChangeSpec := { name := "fnExactFuncText", fn := fun _ => fun
  | [d] => { results := [.lit (.bool false)], args := [d] }
  | _ => none }
def FnExactFuncTextWrongFalsely : Prop := fnExactFuncTextRow.holds Try.pinned (OpenSpec.ofChange fnExactFuncTextWrong)

/-- 'laws.FnExactParseFunc': WHATEVER THE INPUT: true; the input reads as it did. -/
def fnExactParseFuncSpec : ChangeSpec := { name := "fnExactParseFunc", fn := fun _ => fun
  | [d] => { results := [.lit (.bool true)], args := [d] }
  | _ => none }
def fnExactParseFuncRow : OpenClaim := { program := "ytclpfjedijpnfab", sum := "fb50143ed172abc576e57fb309c9616bab9fb00d3ca2141bca8a5e6756268738", func := "loop.example/g01323/laws.FnExactParseFunc", spec := "fnExactParseFunc", inPlace := ["internal/bytealg.IndexByteString", "internal/bytealg.IndexString"], unfollowed := true, recurses := true, named := ["internal/bytealg.MaxLen"], plainKeys := false, apart := false }
def FnExactParseFuncSaid : Prop := fnExactParseFuncRow.holds Try.pinned (OpenSpec.ofChange fnExactParseFuncSpec)

/-- ITS FALSE NEIGHBOUR: 'it returns false'. Refute it at one input. -/
def fnExactParseFuncWrong : ChangeSpec := { name := "fnExactParseFunc", fn := fun _ => fun
  | [d] => { results := [.lit (.bool false)], args := [d] }
  | _ => none }
def FnExactParseFuncWrongFalsely : Prop := fnExactParseFuncRow.holds Try.pinned (OpenSpec.ofChange fnExactParseFuncWrong)

/- THE SECOND FORM. 'bulk': how many values and letters a reading holds, each counted each time it is reached (what is shared counts as often as it is met; a slice's spare places count too). A statement '..UptoSaid' is the law's where the arguments, and the package variables that the reading takes, are together of bulk at most 1048576: NARROWER than '..Said'. Prove '..Said' where nothing that the law and all that it calls make is longer than what came in: it says more and counts as full. Else prove '..UptoSaid'. A law counts once. -/
mutual
def uptoBulk {H : Type} : DataW H → Nat
  | .lit (.string bytes) => bytes.length + 1
  | .lit _ => 1
  | .nil => 1
  | .ptr d => uptoBulk d + 1
  | .slice elems spare => uptoBulkAll elems + uptoBulkAll spare + 1
  | .agg parts => uptoBulkAll parts + 1
  | .iface _ d => uptoBulk d + 1
  | .map entries => uptoBulkEntries entries + 1
  | .held _ => 1
def uptoBulkAll {H : Type} : List (DataW H) → Nat
  | [] => 0
  | d :: r => uptoBulk d + uptoBulkAll r
def uptoBulkEntries {H : Type} : List (Lit × DataW H) → Nat
  | [] => 0
  | x :: r => uptoBulkEntry x + uptoBulkEntries r
def uptoBulkEntry {H : Type} : Lit × DataW H → Nat
  | (.string bytes, d) => bytes.length + uptoBulk d + 1
  | (_, d) => uptoBulk d + 1
 end
def uptoSmall : (H : Type) → List (DataW H) → Bool := fun _ ds => decide (uptoBulkAll ds ≤ 1048576)
def OpenSpec.upto (s : _root_.Go.ChangeSpec) : _root_.Go.OpenSpec := { _root_.Go.OpenSpec.ofChange s with cond := some uptoSmall }

/-- 'laws.FnExactCoreOf', WHERE WHAT IT READS IS OF BULK AT MOST 1048576: true; the input reads as it did. -/
def fnExactCoreOfUptoRow : OpenClaim := { program := "ytclpfjedijpnfab", sum := "fb50143ed172abc576e57fb309c9616bab9fb00d3ca2141bca8a5e6756268738", func := "loop.example/g01323/laws.FnExactCoreOf", spec := "fnExactCoreOf", unfollowed := true, recurses := true, plainKeys := false, apart := false, narrowed := true }
def FnExactCoreOfUptoSaid : Prop := fnExactCoreOfUptoRow.holds Try.pinned (OpenSpec.upto fnExactCoreOfSpec)

/-- 'laws.FnExactNegateFunc', WHERE WHAT IT READS IS OF BULK AT MOST 1048576: true; the input reads as it did. -/
def fnExactNegateFuncUptoRow : OpenClaim := { program := "ytclpfjedijpnfab", sum := "fb50143ed172abc576e57fb309c9616bab9fb00d3ca2141bca8a5e6756268738", func := "loop.example/g01323/laws.FnExactNegateFunc", spec := "fnExactNegateFunc", unfollowed := true, recurses := true, plainKeys := false, apart := false, narrowed := true }
def FnExactNegateFuncUptoSaid : Prop := fnExactNegateFuncUptoRow.holds Try.pinned (OpenSpec.upto fnExactNegateFuncSpec)

/-- 'laws.FnExactDualOf', WHERE WHAT IT READS IS OF BULK AT MOST 1048576: true; the input reads as it did. -/
def fnExactDualOfUptoRow : OpenClaim := { program := "ytclpfjedijpnfab", sum := "fb50143ed172abc576e57fb309c9616bab9fb00d3ca2141bca8a5e6756268738", func := "loop.example/g01323/laws.FnExactDualOf", spec := "fnExactDualOf", unfollowed := true, recurses := true, plainKeys := false, apart := false, narrowed := true }
def FnExactDualOfUptoSaid : Prop := fnExactDualOfUptoRow.holds Try.pinned (OpenSpec.upto fnExactDualOfSpec)

/-- 'laws.FnExactWeightOf', WHERE WHAT IT READS IS OF BULK AT MOST 1048576: true; the input reads as it did. -/
def fnExactWeightOfUptoRow : OpenClaim := { program := "ytclpfjedijpnfab", sum := "fb50143ed172abc576e57fb309c9616bab9fb00d3ca2141bca8a5e6756268738", func := "loop.example/g01323/laws.FnExactWeightOf", spec := "fnExactWeightOf", plainKeys := false, apart := false, narrowed := true }
def FnExactWeightOfUptoSaid : Prop := fnExactWeightOfUptoRow.holds Try.pinned (OpenSpec.upto fnExactWeightOfSpec)

/-- 'laws.FnExactNamedFunc', WHERE WHAT IT READS IS OF BULK AT MOST 1048576: true; the input reads as it did. -/
def fnExactNamedFuncUptoRow : OpenClaim := { program := "ytclpfjedijpnfab", sum := "fb50143ed172abc576e57fb309c9616bab9fb00d3ca2141bca8a5e6756268738", func := "loop.example/g01323/laws.FnExactNamedFunc", spec := "fnExactNamedFunc", plainKeys := false, apart := false, narrowed := true }
def FnExactNamedFuncUptoSaid : Prop := fnExactNamedFuncUptoRow.holds Try.pinned (OpenSpec.upto fnExactNamedFuncSpec)

/-- 'laws.FnExactNameOf', WHERE WHAT IT READS IS OF BULK AT MOST 1048576: true; the input reads as it did. -/
def fnExactNameOfUptoRow : OpenClaim := { program := "ytclpfjedijpnfab", sum := "fb50143ed172abc576e57fb309c9616bab9fb00d3ca2141bca8a5e6756268738", func := "loop.example/g01323/laws.FnExactNameOf", spec := "fnExactNameOf", recurses := true, plainKeys := false, apart := false, narrowed := true }
def FnExactNameOfUptoSaid : Prop := fnExactNameOfUptoRow.holds Try.pinned (OpenSpec.upto fnExactNameOfSpec)

/-- 'laws.FnExactFuncText', WHERE WHAT IT READS IS OF BULK AT MOST 1048576: true; the input reads as it did. -/
def fnExactFuncTextUptoRow : OpenClaim := { program := "ytclpfjedijpnfab", sum := "fb50143ed172abc576e57fb309c9616bab9fb00d3ca2141bca8a5e6756268738", func := "loop.example/g01323/laws.FnExactFuncText", spec := "fnExactFuncText", unfollowed := true, recurses := true, plainKeys := false, apart := false, narrowed := true }
def FnExactFuncTextUptoSaid : Prop := fnExactFuncTextUptoRow.holds Try.pinned (OpenSpec.upto fnExactFuncTextSpec)

/-- 'laws.FnExactParseFunc', WHERE WHAT IT READS IS OF BULK AT MOST 1048576: true; the input reads as it did. -/
def fnExactParseFuncUptoRow : OpenClaim := { program := "ytclpfjedijpnfab", sum := "fb50143ed172abc576e57fb309c9616bab9fb00d3ca2141bca8a5e6756268738", func := "loop.example/g01323/laws.FnExactParseFunc", spec := "fnExactParseFunc", inPlace := ["internal/bytealg.IndexByteString", "internal/bytealg.IndexString"], unfollowed := true, recurses := true, named := ["internal/bytealg.MaxLen"], plainKeys := false, apart := false, narrowed := true }
def FnExactParseFuncUptoSaid : Prop := fnExactParseFuncUptoRow.holds Try.pinned (OpenSpec.upto fnExactParseFuncSpec)

end Rows
end Go.Proofs.Ytclpfjedijpnfab
