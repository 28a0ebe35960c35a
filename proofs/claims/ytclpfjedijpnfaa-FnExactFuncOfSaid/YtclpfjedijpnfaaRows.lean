/-
  No cell of these rows narrows 'for every input' (looked for: loops, veiled, ifaces, maps, wideKeys, modest, calm, conditions, laid).
  DERIVED. THE GIVEN ROWS OF THIS SEAT. 12 by the template 'for every input the law returns true; each argument reads behind the call as it read before'; 0 by the template 'total and deterministic' (their statements: YtclpfjedijpnfaaTotals.lean).
  GIVEN WITH THE SEED: the statements are not yours to turn. If you find one false, say at which input.
  Laid BY PROGRAM, IN A SANDBOX (cutbox-rows.mjs): the forced cells as the released guide's own fill.sh prints them over the translation b15d94e1d045be67… (all of the seat's roots in one cut). By AI agents, Wed Nov 11 2026. No macro, syntax, notation, axiom, sorry.
-/
import Derived.Test.YtclpfjedijpnfaaChecked
import GoSem.Claim
import GoSem.ClaimJoined
import GoSem.ClaimMapViews
import Derived.JoinedTies
import Derived.KernelRfl
namespace Go.Proofs.Ytclpfjedijpnfaa
/- THE CELL 'sum', in the pinned program and in every row, IS THE sha256 OF THE DUMP (.gsa) THAT YtclpfjedijpnfaaProg.lean LOADS. Nothing in Lean hashes anything: it is a label: what it is worth is what the hold of that sum in a sandbox is worth. -/
noncomputable def Try.pinned : Pinned := { name := "ytclpfjedijpnfaa", sum := "b15d94e1d045be673baf6898a5b88d4de1b63d5bda8bdd9cfdd57a48715ead18", checked := Try.checked }
namespace Rows
def none {H : Type} : Left H := { results := [], args := [] }

/-- 'laws.FnFunctions': WHATEVER THE INPUT: true; the input reads as it did. -/
def fnFunctionsSpec : ChangeSpec := { name := "fnFunctions", fn := fun _ => fun
  | [d] => { results := [.lit (.bool true)], args := [d] }
  | _ => none }
def fnFunctionsRow : OpenClaim := { program := "ytclpfjedijpnfaa", sum := "b15d94e1d045be673baf6898a5b88d4de1b63d5bda8bdd9cfdd57a48715ead18", func := "loop.example/g01323/laws.FnFunctions", spec := "fnFunctions", inPlace := ["internal/bytealg.IndexByteString", "internal/bytealg.IndexString"], unfollowed := true, recurses := true, named := ["internal/bytealg.MaxLen"], plainKeys := false, apart := false }
def FnFunctionsSaid : Prop := fnFunctionsRow.holds Try.pinned (OpenSpec.ofChange fnFunctionsSpec)

/-- ITS FALSE NEIGHBOUR: 'it returns false'. Refute it at one input. -/
def fnFunctionsWrong : ChangeSpec := { name := "fnFunctions", fn := fun _ => fun
  | [d] => { results := [.lit (.bool false)], args := [d] }
  | _ => none }
def FnFunctionsWrongFalsely : Prop := fnFunctionsRow.holds Try.pinned (OpenSpec.ofChange fnFunctionsWrong)

/-- 'laws.FnPuts': WHATEVER THE INPUT: true; the input reads as it did. -/
def fnPutsSpec : ChangeSpec := { name := "fnPuts", fn := fun _ => fun
  | [d] => { results := [.lit (.bool true)], args := [d] }
  | _ => none }
def fnPutsRow : OpenClaim := { program := "ytclpfjedijpnfaa", sum := "b15d94e1d045be673baf6898a5b88d4de1b63d5bda8bdd9cfdd57a48715ead18", func := "loop.example/g01323/laws.FnPuts", spec := "fnPuts", unfollowed := true, recurses := true, plainKeys := false, apart := false }
def FnPutsSaid : Prop := fnPutsRow.holds Try.pinned (OpenSpec.ofChange fnPutsSpec)

/-- ITS FALSE NEIGHBOUR: 'it returns false'. Refute it at one input. -/
def fnPutsWrong : ChangeSpec := { name := "fnPuts", fn := fun _ => fun
  | [d] => { results := [.lit (.bool false)], args := [d] }
  | _ => none }
def FnPutsWrongFalsely : Prop := fnPutsRow.holds Try.pinned (OpenSpec.ofChange fnPutsWrong)

/-- 'laws.FnExactIsFunc': WHATEVER THE INPUT: true; the input reads as it did. -/
def fnExactIsFuncSpec : ChangeSpec := { name := "fnExactIsFunc", fn := fun _ => fun
  | [d] => { results := [.lit (.bool true)], args := [d] }
  | _ => none }
def fnExactIsFuncRow : OpenClaim := { program := "ytclpfjedijpnfaa", sum := "b15d94e1d045be673baf6898a5b88d4de1b63d5bda8bdd9cfdd57a48715ead18", func := "loop.example/g01323/laws.FnExactIsFunc", spec := "fnExactIsFunc", plainKeys := false, apart := false }
def FnExactIsFuncSaid : Prop := fnExactIsFuncRow.holds Try.pinned (OpenSpec.ofChange fnExactIsFuncSpec)

/-- ITS FALSE NEIGHBOUR: 'it returns false'. Refute it at one input. -/
def fnExactIsFuncWrong : ChangeSpec := { name := "fnExactIsFunc", fn := fun _ => fun
  | [d] => { results := [.lit (.bool false)], args := [d] }
  | _ => none }
def FnExactIsFuncWrongFalsely : Prop := fnExactIsFuncRow.holds Try.pinned (OpenSpec.ofChange fnExactIsFuncWrong)

/-- 'laws.FnExactFuncOf': WHATEVER THE INPUT: true; the input reads as it did. -/
def fnExactFuncOfSpec : ChangeSpec := { name := "fnExactFuncOf", fn := fun _ => fun
  | [d1, d2] => { results := [.lit (.bool true)], args := [d1, d2] }
  | _ => none }
def fnExactFuncOfRow : OpenClaim := { program := "ytclpfjedijpnfaa", sum := "b15d94e1d045be673baf6898a5b88d4de1b63d5bda8bdd9cfdd57a48715ead18", func := "loop.example/g01323/laws.FnExactFuncOf", spec := "fnExactFuncOf", unfollowed := true, recurses := true, plainKeys := false, apart := false }
def FnExactFuncOfSaid : Prop := fnExactFuncOfRow.holds Try.pinned (OpenSpec.ofChange fnExactFuncOfSpec)

/-- ITS FALSE NEIGHBOUR: 'it returns false'. Refute it at one input. -/
def fnExactFuncOfWrong : ChangeSpec := { name := "fnExactFuncOf", fn := fun _ => fun
  | [d1, d2] => { results := [.lit (.bool false)], args := [d1, d2] }
  | _ => none }
def FnExactFuncOfWrongFalsely : Prop := fnExactFuncOfRow.holds Try.pinned (OpenSpec.ofChange fnExactFuncOfWrong)

/-- 'laws.FnExactValueAt': WHATEVER THE INPUT: true; the input reads as it did. -/
def fnExactValueAtSpec : ChangeSpec := { name := "fnExactValueAt", fn := fun _ => fun
  | [d1, d2] => { results := [.lit (.bool true)], args := [d1, d2] }
  | _ => none }
def fnExactValueAtRow : OpenClaim := { program := "ytclpfjedijpnfaa", sum := "b15d94e1d045be673baf6898a5b88d4de1b63d5bda8bdd9cfdd57a48715ead18", func := "loop.example/g01323/laws.FnExactValueAt", spec := "fnExactValueAt", unfollowed := true, recurses := true, plainKeys := false, apart := false }
def FnExactValueAtSaid : Prop := fnExactValueAtRow.holds Try.pinned (OpenSpec.ofChange fnExactValueAtSpec)

/-- ITS FALSE NEIGHBOUR: 'it returns false'. Refute it at one input. -/
def fnExactValueAtWrong : ChangeSpec := { name := "fnExactValueAt", fn := fun _ => fun
  | [d1, d2] => { results := [.lit (.bool false)], args := [d1, d2] }
  | _ => none }
def FnExactValueAtWrongFalsely : Prop := fnExactValueAtRow.holds Try.pinned (OpenSpec.ofChange fnExactValueAtWrong)

/-- 'laws.FnExactProjectionOf': WHATEVER THE INPUT: true; the input reads as it did. -/
def fnExactProjectionOfSpec : ChangeSpec := { name := "fnExactProjectionOf", fn := fun _ => fun
  | [d1, d2] => { results := [.lit (.bool true)], args := [d1, d2] }
  | _ => none }
def fnExactProjectionOfRow : OpenClaim := { program := "ytclpfjedijpnfaa", sum := "b15d94e1d045be673baf6898a5b88d4de1b63d5bda8bdd9cfdd57a48715ead18", func := "loop.example/g01323/laws.FnExactProjectionOf", spec := "fnExactProjectionOf", unfollowed := true, recurses := true, plainKeys := false, apart := false }
def FnExactProjectionOfSaid : Prop := fnExactProjectionOfRow.holds Try.pinned (OpenSpec.ofChange fnExactProjectionOfSpec)

/-- ITS FALSE NEIGHBOUR: 'it returns false'. Refute it at one input. -/
def fnExactProjectionOfWrong : ChangeSpec := { name := "fnExactProjectionOf", fn := fun _ => fun
  | [d1, d2] => { results := [.lit (.bool false)], args := [d1, d2] }
  | _ => none }
def FnExactProjectionOfWrongFalsely : Prop := fnExactProjectionOfRow.holds Try.pinned (OpenSpec.ofChange fnExactProjectionOfWrong)

/-- 'laws.FnExactConstantOf': WHATEVER THE INPUT: true; the input reads as it did. -/
def fnExactConstantOfSpec : ChangeSpec := { name := "fnExactConstantOf", fn := fun _ => fun
  | [d1, d2] => { results := [.lit (.bool true)], args := [d1, d2] }
  | _ => none }
def fnExactConstantOfRow : OpenClaim := { program := "ytclpfjedijpnfaa", sum := "b15d94e1d045be673baf6898a5b88d4de1b63d5bda8bdd9cfdd57a48715ead18", func := "loop.example/g01323/laws.FnExactConstantOf", spec := "fnExactConstantOf", unfollowed := true, recurses := true, plainKeys := false, apart := false }
def FnExactConstantOfSaid : Prop := fnExactConstantOfRow.holds Try.pinned (OpenSpec.ofChange fnExactConstantOfSpec)

/-- ITS FALSE NEIGHBOUR: 'it returns false'. Refute it at one input. -/
def fnExactConstantOfWrong : ChangeSpec := { name := "fnExactConstantOf", fn := fun _ => fun
  | [d1, d2] => { results := [.lit (.bool false)], args := [d1, d2] }
  | _ => none }
def FnExactConstantOfWrongFalsely : Prop := fnExactConstantOfRow.holds Try.pinned (OpenSpec.ofChange fnExactConstantOfWrong)

/-- 'laws.FnExactPutFuncs': WHATEVER THE INPUT: true; the input reads as it did. -/
def fnExactPutFuncsSpec : ChangeSpec := { name := "fnExactPutFuncs", fn := fun _ => fun
  | [d1, d2] => { results := [.lit (.bool true)], args := [d1, d2] }
  | _ => none }
def fnExactPutFuncsRow : OpenClaim := { program := "ytclpfjedijpnfaa", sum := "b15d94e1d045be673baf6898a5b88d4de1b63d5bda8bdd9cfdd57a48715ead18", func := "loop.example/g01323/laws.FnExactPutFuncs", spec := "fnExactPutFuncs", unfollowed := true, recurses := true, plainKeys := false, apart := false }
def FnExactPutFuncsSaid : Prop := fnExactPutFuncsRow.holds Try.pinned (OpenSpec.ofChange fnExactPutFuncsSpec)

/-- ITS FALSE NEIGHBOUR: 'it returns false'. Refute it at one input. -/
def fnExactPutFuncsWrong : ChangeSpec := { name := "fnExactPutFuncs", fn := fun _ => fun
  | [d1, d2] => { results := [.lit (.bool false)], args := [d1, d2] }
  | _ => none }
def FnExactPutFuncsWrongFalsely : Prop := fnExactPutFuncsRow.holds Try.pinned (OpenSpec.ofChange fnExactPutFuncsWrong)

/-- 'laws.FnExactEssentialOf': WHATEVER THE INPUT: true; the input reads as it did. -/
def fnExactEssentialOfSpec : ChangeSpec := { name := "fnExactEssentialOf", fn := fun _ => fun
  | [d] => { results := [.lit (.bool true)], args := [d] }
  | _ => none }
def fnExactEssentialOfRow : OpenClaim := { program := "ytclpfjedijpnfaa", sum := "b15d94e1d045be673baf6898a5b88d4de1b63d5bda8bdd9cfdd57a48715ead18", func := "loop.example/g01323/laws.FnExactEssentialOf", spec := "fnExactEssentialOf", unfollowed := true, recurses := true, plainKeys := false, apart := false }
def FnExactEssentialOfSaid : Prop := fnExactEssentialOfRow.holds Try.pinned (OpenSpec.ofChange fnExactEssentialOfSpec)

/-- ITS FALSE NEIGHBOUR: 'it returns false'. Refute it at one input. -/
def fnExactEssentialOfWrong : ChangeSpec := { name := "fnExactEssentialOf", fn := fun _ => fun
  | [d] => { results := [.lit (.bool false)], args := [d] }
  | _ => none }
def FnExactEssentialOfWrongFalsely : Prop := fnExactEssentialOfRow.holds Try.pinned (OpenSpec.ofChange fnExactEssentialOfWrong)

/-- 'laws.FnExactPermuteFunc': WHATEVER THE INPUT: true; the input reads as it did. -/
def fnExactPermuteFuncSpec : ChangeSpec := { name := "fnExactPermuteFunc", fn := fun _ => fun
  | [d1, d2] => { results := [.lit (.bool true)], args := [d1, d2] }
  | _ => none }
def fnExactPermuteFuncRow : OpenClaim := { program := "ytclpfjedijpnfaa", sum := "b15d94e1d045be673baf6898a5b88d4de1b63d5bda8bdd9cfdd57a48715ead18", func := "loop.example/g01323/laws.FnExactPermuteFunc", spec := "fnExactPermuteFunc", unfollowed := true, recurses := true, plainKeys := false, apart := false }
def FnExactPermuteFuncSaid : Prop := fnExactPermuteFuncRow.holds Try.pinned (OpenSpec.ofChange fnExactPermuteFuncSpec)

/-- ITS FALSE NEIGHBOUR: 'it returns false'. Refute it at one input. -/
def fnExactPermuteFuncWrong : ChangeSpec := { name := "fnExactPermuteFunc", fn := fun _ => fun
  | [d1, d2] => { results := [.lit (.bool false)], args := [d1, d2] }
  | _ => none }
def FnExactPermuteFuncWrongFalsely : Prop := fnExactPermuteFuncRow.holds Try.pinned (OpenSpec.ofChange fnExactPermuteFuncWrong)

/-- 'laws.FnExactFixVariable': WHATEVER THE INPUT: true; the input reads as it did. -/
def fnExactFixVariableSpec : ChangeSpec := { name := "fnExactFixVariable", fn := fun _ => fun
  | [d1, d2, d3] => { results := [.lit (.bool true)], args := [d1, d2, d3] }
  | _ => none }
def fnExactFixVariableRow : OpenClaim := { program := "ytclpfjedijpnfaa", sum := "b15d94e1d045be673baf6898a5b88d4de1b63d5bda8bdd9cfdd57a48715ead18", func := "loop.example/g01323/laws.FnExactFixVariable", spec := "fnExactFixVariable", unfollowed := true, recurses := true, plainKeys := false, apart := false }
def FnExactFixVariableSaid : Prop := fnExactFixVariableRow.holds Try.pinned (OpenSpec.ofChange fnExactFixVariableSpec)

/-- ITS FALSE NEIGHBOUR: 'it returns false'. Refute it at one input. -/
def fnExactFixVariableWrong : ChangeSpec := { name := "fnExactFixVariable", fn := fun _ => fun
  | [d1, d2, d3] => { results := [.lit (.bool false)], args := [d1, d2, d3] }
  | _ => none }
def FnExactFixVariableWrongFalsely : Prop := fnExactFixVariableRow.holds Try.pinned (OpenSpec.ofChange fnExactFixVariableWrong)

/-- 'laws.FnExactWidenFunc': WHATEVER THE INPUT: true; the input reads as it did. -/
def fnExactWidenFuncSpec : ChangeSpec := { name := "fnExactWidenFunc", fn := fun _ => fun
  | [d] => { results := [.lit (.bool true)], args := [d] }
  | _ => none }
def fnExactWidenFuncRow : OpenClaim := { program := "ytclpfjedijpnfaa", sum := "b15d94e1d045be673baf6898a5b88d4de1b63d5bda8bdd9cfdd57a48715ead18", func := "loop.example/g01323/laws.FnExactWidenFunc", spec := "fnExactWidenFunc", unfollowed := true, recurses := true, plainKeys := false, apart := false }
def FnExactWidenFuncSaid : Prop := fnExactWidenFuncRow.holds Try.pinned (OpenSpec.ofChange fnExactWidenFuncSpec)

/-- ITS FALSE NEIGHBOUR: 'it returns false'. Refute it at one input. -/
def fnExactWidenFuncWrong : ChangeSpec := { name := "fnExactWidenFunc", fn := fun _ => fun
  | [d] => { results := [.lit (.bool false)], args := [d] }
  | _ => none }
def FnExactWidenFuncWrongFalsely : Prop := fnExactWidenFuncRow.holds Try.pinned (OpenSpec.ofChange fnExactWidenFuncWrong)

/- THE SECOND FORM. 'bulk': how many values and letters a reading holds, each counted each time it is reached (what is shared counts as often as it is met; a slice's spare places count too). A statement '..UptoSaid' is the law's where the arguments, and the package variables that the reading takes, are together of bulk at most 1048576: NARROWER than '..Said'. Prove '..Said' where nothing that the law and all that it calls make is longer than what came in: it says more and counts as full. Else prove '..UptoSaid'. A law counts once. -/
mutual
def uptoBulk {H : Type} : DataW H → Nat
  | .lit (.string bytes) => bytes.length + 1
  | .lit _ => 1
  | .nil => 1
  | .ptr d => uptoBulk d + 1
  | .slice elems spare => uptoBulkAll elems + uptoBulkAll spare + 1
  | .agg parts => uptoBulkAll parts + 1
  | .iface _ d => uptoBulk d + 1
  | .map entries => uptoBulkEntries entries + 1
  | .held _ => 1
def uptoBulkAll {H : Type} : List (DataW H) → Nat
  | [] => 0
  | d :: r => uptoBulk d + uptoBulkAll r
def uptoBulkEntries {H : Type} : List (Lit × DataW H) → Nat
  | [] => 0
  | x :: r => uptoBulkEntry x + uptoBulkEntries r
def uptoBulkEntry {H : Type} : Lit × DataW H → Nat
  | (.string bytes, d) => bytes.length + uptoBulk d + 1
  | (_, d) => uptoBulk d + 1
 end
def uptoSmall : (H : Type) → List (DataW H) → Bool := fun _ ds => decide (uptoBulkAll ds ≤ 1048576)
def OpenSpec.upto (s : _root_.Go.ChangeSpec) : _root_.Go.OpenSpec := { _root_.Go.OpenSpec.ofChange s with cond := some uptoSmall }

/-- 'laws.FnFunctions', WHERE WHAT IT READS IS OF BULK AT MOST 1048576: true; the input reads as it did. -/
def fnFunctionsUptoRow : OpenClaim := { program := "ytclpfjedijpnfaa", sum := "b15d94e1d045be673baf6898a5b88d4de1b63d5bda8bdd9cfdd57a48715ead18", func := "loop.example/g01323/laws.FnFunctions", spec := "fnFunctions", inPlace := ["internal/bytealg.IndexByteString", "internal/bytealg.IndexString"], unfollowed := true, recurses := true, named := ["internal/bytealg.MaxLen"], plainKeys := false, apart := false, narrowed := true }
def FnFunctionsUptoSaid : Prop := fnFunctionsUptoRow.holds Try.pinned (OpenSpec.upto fnFunctionsSpec)

/-- 'laws.FnPuts', WHERE WHAT IT READS IS OF BULK AT MOST 1048576: true; the input reads as it did. -/
def fnPutsUptoRow : OpenClaim := { program := "ytclpfjedijpnfaa", sum := "b15d94e1d045be673baf6898a5b88d4de1b63d5bda8bdd9cfdd57a48715ead18", func := "loop.example/g01323/laws.FnPuts", spec := "fnPuts", unfollowed := true, recurses := true, plainKeys := false, apart := false, narrowed := true }
def FnPutsUptoSaid : Prop := fnPutsUptoRow.holds Try.pinned (OpenSpec.upto fnPutsSpec)

/-- 'laws.FnExactIsFunc', WHERE WHAT IT READS IS OF BULK AT MOST 1048576: true; the input reads as it did. -/
def fnExactIsFuncUptoRow : OpenClaim := { program := "ytclpfjedijpnfaa", sum := "b15d94e1d045be673baf6898a5b88d4de1b63d5bda8bdd9cfdd57a48715ead18", func := "loop.example/g01323/laws.FnExactIsFunc", spec := "fnExactIsFunc", plainKeys := false, apart := false, narrowed := true }
def FnExactIsFuncUptoSaid : Prop := fnExactIsFuncUptoRow.holds Try.pinned (OpenSpec.upto fnExactIsFuncSpec)

/-- 'laws.FnExactFuncOf', WHERE WHAT IT READS IS OF BULK AT MOST 1048576: true; the input reads as it did. -/
def fnExactFuncOfUptoRow : OpenClaim := { program := "ytclpfjedijpnfaa", sum := "b15d94e1d045be673baf6898a5b88d4de1b63d5bda8bdd9cfdd57a48715ead18", func := "loop.example/g01323/laws.FnExactFuncOf", spec := "fnExactFuncOf", unfollowed := true, recurses := true, plainKeys := false, apart := false, narrowed := true }
def FnExactFuncOfUptoSaid : Prop := fnExactFuncOfUptoRow.holds Try.pinned (OpenSpec.upto fnExactFuncOfSpec)

/-- 'laws.FnExactValueAt', WHERE WHAT IT READS IS OF BULK AT MOST 1048576: true; the input reads as it did. -/
def fnExactValueAtUptoRow : OpenClaim := { program := "ytclpfjedijpnfaa", sum := "b15d94e1d045be673baf6898a5b88d4de1b63d5bda8bdd9cfdd57a48715ead18", func := "loop.example/g01323/laws.FnExactValueAt", spec := "fnExactValueAt", unfollowed := true, recurses := true, plainKeys := false, apart := false, narrowed := true }
def FnExactValueAtUptoSaid : Prop := fnExactValueAtUptoRow.holds Try.pinned (OpenSpec.upto fnExactValueAtSpec)

/-- 'laws.FnExactProjectionOf', WHERE WHAT IT READS IS OF BULK AT MOST 1048576: true; the input reads as it did. -/
def fnExactProjectionOfUptoRow : OpenClaim := { program := "ytclpfjedijpnfaa", sum := "b15d94e1d045be673baf6898a5b88d4de1b63d5bda8bdd9cfdd57a48715ead18", func := "loop.example/g01323/laws.FnExactProjectionOf", spec := "fnExactProjectionOf", unfollowed := true, recurses := true, plainKeys := false, apart := false, narrowed := true }
def FnExactProjectionOfUptoSaid : Prop := fnExactProjectionOfUptoRow.holds Try.pinned (OpenSpec.upto fnExactProjectionOfSpec)

/-- 'laws.FnExactConstantOf', WHERE WHAT IT READS IS OF BULK AT MOST 1048576: true; the input reads as it did. -/
def fnExactConstantOfUptoRow : OpenClaim := { program := "ytclpfjedijpnfaa", sum := "b15d94e1d045be673baf6898a5b88d4de1b63d5bda8bdd9cfdd57a48715ead18", func := "loop.example/g01323/laws.FnExactConstantOf", spec := "fnExactConstantOf", unfollowed := true, recurses := true, plainKeys := false, apart := false, narrowed := true }
def FnExactConstantOfUptoSaid : Prop := fnExactConstantOfUptoRow.holds Try.pinned (OpenSpec.upto fnExactConstantOfSpec)

/-- 'laws.FnExactPutFuncs', WHERE WHAT IT READS IS OF BULK AT MOST 1048576: true; the input reads as it did. -/
def fnExactPutFuncsUptoRow : OpenClaim := { program := "ytclpfjedijpnfaa", sum := "b15d94e1d045be673baf6898a5b88d4de1b63d5bda8bdd9cfdd57a48715ead18", func := "loop.example/g01323/laws.FnExactPutFuncs", spec := "fnExactPutFuncs", unfollowed := true, recurses := true, plainKeys := false, apart := false, narrowed := true }
def FnExactPutFuncsUptoSaid : Prop := fnExactPutFuncsUptoRow.holds Try.pinned (OpenSpec.upto fnExactPutFuncsSpec)

/-- 'laws.FnExactEssentialOf', WHERE WHAT IT READS IS OF BULK AT MOST 1048576: true; the input reads as it did. -/
def fnExactEssentialOfUptoRow : OpenClaim := { program := "ytclpfjedijpnfaa", sum := "b15d94e1d045be673baf6898a5b88d4de1b63d5bda8bdd9cfdd57a48715ead18", func := "loop.example/g01323/laws.FnExactEssentialOf", spec := "fnExactEssentialOf", unfollowed := true, recurses := true, plainKeys := false, apart := false, narrowed := true }
def FnExactEssentialOfUptoSaid : Prop := fnExactEssentialOfUptoRow.holds Try.pinned (OpenSpec.upto fnExactEssentialOfSpec)

/-- 'laws.FnExactPermuteFunc', WHERE WHAT IT READS IS OF BULK AT MOST 1048576: true; the input reads as it did. -/
def fnExactPermuteFuncUptoRow : OpenClaim := { program := "ytclpfjedijpnfaa", sum := "b15d94e1d045be673baf6898a5b88d4de1b63d5bda8bdd9cfdd57a48715ead18", func := "loop.example/g01323/laws.FnExactPermuteFunc", spec := "fnExactPermuteFunc", unfollowed := true, recurses := true, plainKeys := false, apart := false, narrowed := true }
def FnExactPermuteFuncUptoSaid : Prop := fnExactPermuteFuncUptoRow.holds Try.pinned (OpenSpec.upto fnExactPermuteFuncSpec)

/-- 'laws.FnExactFixVariable', WHERE WHAT IT READS IS OF BULK AT MOST 1048576: true; the input reads as it did. -/
def fnExactFixVariableUptoRow : OpenClaim := { program := "ytclpfjedijpnfaa", sum := "b15d94e1d045be673baf6898a5b88d4de1b63d5bda8bdd9cfdd57a48715ead18", func := "loop.example/g01323/laws.FnExactFixVariable", spec := "fnExactFixVariable", unfollowed := true, recurses := true, plainKeys := false, apart := false, narrowed := true }
def FnExactFixVariableUptoSaid : Prop := fnExactFixVariableUptoRow.holds Try.pinned (OpenSpec.upto fnExactFixVariableSpec)

/-- 'laws.FnExactWidenFunc', WHERE WHAT IT READS IS OF BULK AT MOST 1048576: true; the input reads as it did. -/
def fnExactWidenFuncUptoRow : OpenClaim := { program := "ytclpfjedijpnfaa", sum := "b15d94e1d045be673baf6898a5b88d4de1b63d5bda8bdd9cfdd57a48715ead18", func := "loop.example/g01323/laws.FnExactWidenFunc", spec := "fnExactWidenFunc", unfollowed := true, recurses := true, plainKeys := false, apart := false, narrowed := true }
def FnExactWidenFuncUptoSaid : Prop := fnExactWidenFuncUptoRow.holds Try.pinned (OpenSpec.upto fnExactWidenFuncSpec)

end Rows
end Go.Proofs.Ytclpfjedijpnfaa
