/-
  No cell of these rows narrows 'for every input' (looked for: loops, veiled, ifaces, maps, wideKeys, modest, calm, conditions, laid).
  DERIVED. THE GIVEN ROWS OF THIS SEAT. 8 by the template 'for every input the law returns true; each argument reads behind the call as it read before'; 0 by the template 'total and deterministic' (their statements: YtkemegiofiemfabTotals.lean).
  GIVEN WITH THE SEED: the statements are not yours to turn. If you find one false, say at which input.
  Laid BY PROGRAM, IN A SANDBOX (cutbox-rows.mjs): the forced cells as the released guide's own fill.sh prints them over the translation ceae6176711634a7… (all of the seat's roots in one cut). By AI agents, Wed Nov 11 2026. No macro, syntax, notation, axiom, sorry.
-/
import Derived.Test.YtkemegiofiemfabChecked
import GoSem.Claim
import GoSem.ClaimJoined
import GoSem.ClaimMapViews
import Derived.JoinedTies
import Derived.KernelRfl
namespace Go.Proofs.Ytkemegiofiemfab
/- THE CELL 'sum', in the pinned program and in every row, IS THE sha256 OF THE DUMP (.gsa) THAT YtkemegiofiemfabProg.lean LOADS. Nothing in Lean hashes anything: it is a label: what it is worth is what the hold of that sum in a sandbox is worth. -/
noncomputable def Try.pinned : Pinned := { name := "ytkemegiofiemfab", sum := "ceae6176711634a709d80ecf2c1187cafc05ac387c0b134f5d3ea539b1442dca", checked := Try.checked }
namespace Rows
def none {H : Type} : Left H := { results := [], args := [] }

/-- 'laws.FnExactPutFuncs': WHATEVER THE INPUT: true; the input reads as it did. -/
def fnExactPutFuncsSpec : ChangeSpec := { name := "fnExactPutFuncs", fn := fun _ => fun
  | [d1, d2] => { results := [.lit (.bool true)], args := [d1, d2] }
  | _ => none }
def fnExactPutFuncsRow : OpenClaim := { program := "ytkemegiofiemfab", sum := "ceae6176711634a709d80ecf2c1187cafc05ac387c0b134f5d3ea539b1442dca", func := "loop.example/g01323/laws.FnExactPutFuncs", spec := "fnExactPutFuncs", unfollowed := true, recurses := true, plainKeys := false, apart := false }
def FnExactPutFuncsSaid : Prop := fnExactPutFuncsRow.holds Try.pinned (OpenSpec.ofChange fnExactPutFuncsSpec)

/-- ITS FALSE NEIGHBOUR: 'it returns false'. Refute it at one input. -/
def fnExactPutFuncsWrong : ChangeSpec := { name := "fnExactPutFuncs", fn := fun _ => fun
  | [d1, d2] => { results := [.lit (.bool false)], args := [d1, d2] }
  | _ => none }
def FnExactPutFuncsWrongFalsely : Prop := fnExactPutFuncsRow.holds Try.pinned (OpenSpec.ofChange fnExactPutFuncsWrong)

/-- 'laws.FnExactPermuteFunc': WHATEVER THE INPUT: true; the input reads as it did. -/
def fnExactPermuteFuncSpec : ChangeSpec := { name := "fnExactPermuteFunc", fn := fun _ => fun
  | [d1, d2] => { results := [.lit (.bool true)], args := [d1, d2] }
  | _ => none }
def fnExactPermuteFuncRow : OpenClaim := { program := "ytkemegiofiemfab", sum := "ceae6176711634a709d80ecf2c1187cafc05ac387c0b134f5d3ea539b1442dca", func := "loop.example/g01323/laws.FnExactPermuteFunc", spec := "fnExactPermuteFunc", unfollowed := true, recurses := true, plainKeys := false, apart := false }
def FnExactPermuteFuncSaid : Prop := fnExactPermuteFuncRow.holds Try.pinned (OpenSpec.ofChange fnExactPermuteFuncSpec)

/-- ITS FALSE NEIGHBOUR: 'it returns false'. Refute it at one input. -/
def fnExactPermuteFuncWrong : ChangeSpec := { name := "fnExactPermuteFunc", fn := fun _ => fun
  | [d1, d2] => { results := [.lit (.bool false)], args := [d1, d2] }
  | _ => none }
def FnExactPermuteFuncWrongFalsely : Prop := fnExactPermuteFuncRow.holds Try.pinned (OpenSpec.ofChange fnExactPermuteFuncWrong)

/-- 'laws.FnExactNamedFunc': WHATEVER THE INPUT: true; the input reads as it did. -/
def fnExactNamedFuncSpec : ChangeSpec := { name := "fnExactNamedFunc", fn := fun _ => fun
  | [d] => { results := [.lit (.bool true)], args := [d] }
  | _ => none }
def fnExactNamedFuncRow : OpenClaim := { program := "ytkemegiofiemfab", sum := "ceae6176711634a709d80ecf2c1187cafc05ac387c0b134f5d3ea539b1442dca", func := "loop.example/g01323/laws.FnExactNamedFunc", spec := "fnExactNamedFunc", plainKeys := false, apart := false }
def FnExactNamedFuncSaid : Prop := fnExactNamedFuncRow.holds Try.pinned (OpenSpec.ofChange fnExactNamedFuncSpec)

/-- ITS FALSE NEIGHBOUR: 'it returns false'. Refute it at one input. -/
def fnExactNamedFuncWrong : ChangeSpec := { name := "fnExactNamedFunc", fn := fun _ => fun
  | [d] => { results := [.lit (.bool false)], args := [d] }
  | _ => none }
def FnExactNamedFuncWrongFalsely : Prop := fnExactNamedFuncRow.holds Try.pinned (OpenSpec.ofChange fnExactNamedFuncWrong)

/-- 'laws.FnExactNameOf': WHATEVER THE INPUT: true; the input reads as it did. -/
def fnExactNameOfSpec : ChangeSpec := { name := "fnExactNameOf", fn := fun _ => fun
  | [d] => { results := [.lit (.bool true)], args := [d] }
  | _ => none }
def fnExactNameOfRow : OpenClaim := { program := "ytkemegiofiemfab", sum := "ceae6176711634a709d80ecf2c1187cafc05ac387c0b134f5d3ea539b1442dca", func := "loop.example/g01323/laws.FnExactNameOf", spec := "fnExactNameOf", recurses := true, plainKeys := false, apart := false }
def FnExactNameOfSaid : Prop := fnExactNameOfRow.holds Try.pinned (OpenSpec.ofChange fnExactNameOfSpec)

/-- ITS FALSE NEIGHBOUR: 'it returns false'. Refute it at one input. -/
def fnExactNameOfWrong : ChangeSpec := { name := "fnExactNameOf", fn := fun _ => fun
  | [d] => { results := [.lit (.bool false)], args := [d] }
  | _ => none }
def FnExactNameOfWrongFalsely : Prop := fnExactNameOfRow.holds Try.pinned (OpenSpec.ofChange fnExactNameOfWrong)

/-- 'laws.FnExactFuncText': WHATEVER THE INPUT: true; the input reads as it did. -/
def fnExactFuncTextSpec : ChangeSpec := { name := "fnExactFuncText", fn := fun _ => fun
  | [d] => { results := [.lit (.bool true)], args := [d] }
  | _ => none }
def fnExactFuncTextRow : OpenClaim := { program := "ytkemegiofiemfab", sum := "ceae6176711634a709d80ecf2c1187cafc05ac387c0b134f5d3ea539b1442dca", func := "loop.example/g01323/laws.FnExactFuncText", spec := "fnExactFuncText", unfollowed := true, recurses := true, plainKeys := false, apart := false }
def FnExactFuncTextSaid : Prop := fnExactFuncTextRow.holds Try.pinned (OpenSpec.ofChange fnExactFuncTextSpec)

/-- ITS FALSE NEIGHBOUR: 'it returns false'. Refute it at one input. -/
def fnExactFuncTextWrong : ChangeSpec := { name := "fnExactFuncText", fn := fun _ => fun
  | [d] => { results := [.lit (.bool false)], args := [d] }
  | _ => none }
def FnExactFuncTextWrongFalsely : Prop := fnExactFuncTextRow.holds Try.pinned (OpenSpec.ofChange fnExactFuncTextWrong)

/-- 'laws.FnExactParseFunc': WHATEVER THE INPUT: true; the input reads as it did. -/
def fnExactParseFuncSpec : ChangeSpec := { name := "fnExactParseFunc", fn := fun _ => fun
  | [d] => { results := [.lit (.bool true)], args := [d] }
  | _ => none }
def fnExactParseFuncRow : OpenClaim := { program := "ytkemegiofiemfab", sum := "ceae6176711634a709d80ecf2c1187cafc05ac387c0b134f5d3ea539b1442dca", func := "loop.example/g01323/laws.FnExactParseFunc", spec := "fnExactParseFunc", inPlace := ["internal/bytealg.IndexByteString", "internal/bytealg.IndexString"], unfollowed := true, recurses := true, named := ["internal/bytealg.MaxLen"], plainKeys := false, apart := false }
def FnExactParseFuncSaid : Prop := fnExactParseFuncRow.holds Try.pinned (OpenSpec.ofChange fnExactParseFuncSpec)

/-- ITS FALSE NEIGHBOUR: 'it returns false'. Refute it at one input. -/
def fnExactParseFuncWrong : ChangeSpec := { name := "fnExactParseFunc", fn := fun _ => fun
  | [d] => { results := [.lit (.bool false)], args := [d] }
  | _ => none }
def FnExactParseFuncWrongFalsely : Prop := fnExactParseFuncRow.holds Try.pinned (OpenSpec.ofChange fnExactParseFuncWrong)

/-- 'laws.FnFunctions': WHATEVER THE INPUT: true; the input reads as it did. -/
def fnFunctionsSpec : ChangeSpec := { name := "fnFunctions", fn := fun _ => fun
  | [d] => { results := [.lit (.bool true)], args := [d] }
  | _ => none }
def fnFunctionsRow : OpenClaim := { program := "ytkemegiofiemfab", sum := "ceae6176711634a709d80ecf2c1187cafc05ac387c0b134f5d3ea539b1442dca", func := "loop.example/g01323/laws.FnFunctions", spec := "fnFunctions", inPlace := ["internal/bytealg.IndexByteString", "internal/bytealg.IndexString"], unfollowed := true, recurses := true, named := ["internal/bytealg.MaxLen"], plainKeys := false, apart := false }
def FnFunctionsSaid : Prop := fnFunctionsRow.holds Try.pinned (OpenSpec.ofChange fnFunctionsSpec)

/-- ITS FALSE NEIGHBOUR: 'it returns false'. Refute it at one input. -/
def fnFunctionsWrong : ChangeSpec := { name := "fnFunctions", fn := fun _ => fun
  | [d] => { results := [.lit (.bool false)], args := [d] }
  | _ => none }
def FnFunctionsWrongFalsely : Prop := fnFunctionsRow.holds Try.pinned (OpenSpec.ofChange fnFunctionsWrong)

/-- 'laws.FnPuts': WHATEVER THE INPUT: true; the input reads as it did. -/
def fnPutsSpec : ChangeSpec := { name := "fnPuts", fn := fun _ => fun
  | [d] => { results := [.lit (.bool true)], args := [d] }
  | _ => none }
def fnPutsRow : OpenClaim := { program := "ytkemegiofiemfab", sum := "ceae6176711634a709d80ecf2c1187cafc05ac387c0b134f5d3ea539b1442dca", func := "loop.example/g01323/laws.FnPuts", spec := "fnPuts", unfollowed := true, recurses := true, plainKeys := false, apart := false }
def FnPutsSaid : Prop := fnPutsRow.holds Try.pinned (OpenSpec.ofChange fnPutsSpec)

/-- ITS FALSE NEIGHBOUR: 'it returns false'. Refute it at one input. -/
def fnPutsWrong : ChangeSpec := { name := "fnPuts", fn := fun _ => fun
  | [d] => { results := [.lit (.bool false)], args := [d] }
  | _ => none }
def FnPutsWrongFalsely : Prop := fnPutsRow.holds Try.pinned (OpenSpec.ofChange fnPutsWrong)

/- THE SECOND FORM. 'bulk': how many values and letters a reading holds, each counted each time it is reached (what is shared counts as often as it is met; a slice's spare places count too). A statement '..UptoSaid' is the law's where the arguments, and the package variables that the reading takes, are together of bulk at most 1048576: NARROWER than '..Said'. Prove '..Said' where nothing that the law and all that it calls make is longer than what came in: it says more and counts as full. Else prove '..UptoSaid'. A law counts once. -/
mutual
def uptoBulk {H : Type} : DataW H → Nat
  | .lit (.string bytes) => bytes.length + 1
  | .lit _ => 1
  | .nil => 1
  | .ptr d => uptoBulk d + 1
  | .slice elems spare => uptoBulkAll elems + uptoBulkAll spare + 1
  | .agg parts => uptoBulkAll parts + 1
  | .iface _ d => uptoBulk d + 1
  | .map entries => uptoBulkEntries entries + 1
  | .held _ => 1
def uptoBulkAll {H : Type} : List (DataW H) → Nat
  | [] => 0
  | d :: r => uptoBulk d + uptoBulkAll r
def uptoBulkEntries {H : Type} : List (Lit × DataW H) → Nat
  | [] => 0
  | x :: r => uptoBulkEntry x + uptoBulkEntries r
def uptoBulkEntry {H : Type} : Lit × DataW H → Nat
  | (.string bytes, d) => bytes.length + uptoBulk d + 1
  | (_, d) => uptoBulk d + 1
 end
def uptoSmall : (H : Type) → List (DataW H) → Bool := fun _ ds => decide (uptoBulkAll ds ≤ 1048576)
def OpenSpec.upto (s : _root_.Go.ChangeSpec) : _root_.Go.OpenSpec := { _root_.Go.OpenSpec.ofChange s with cond := some uptoSmall }

/-- 'laws.FnExactPutFuncs', WHERE WHAT IT READS IS OF BULK AT MOST 1048576: true; the input reads as it did. -/
def fnExactPutFuncsUptoRow : OpenClaim := { program := "ytkemegiofiemfab", sum := "ceae6176711634a709d80ecf2c1187cafc05ac387c0b134f5d3ea539b1442dca", func := "loop.example/g01323/laws.FnExactPutFuncs", spec := "fnExactPutFuncs", unfollowed := true, recurses := true, plainKeys := false, apart := false, narrowed := true }
def FnExactPutFuncsUptoSaid : Prop := fnExactPutFuncsUptoRow.holds Try.pinned (OpenSpec.upto fnExactPutFuncsSpec)

/-- 'laws.FnExactPermuteFunc', WHERE WHAT IT READS IS OF BULK AT MOST 1048576: true; the input reads as it did. -/
def fnExactPermuteFuncUptoRow : OpenClaim := { program := "ytkemegiofiemfab", sum := "ceae6176711634a709d80ecf2c1187cafc05ac387c0b134f5d3ea539b1442dca", func := "loop.example/g01323/laws.FnExactPermuteFunc", spec := "fnExactPermuteFunc", unfollowed := true, recurses := true, plainKeys := false, apart := false, narrowed := true }
def FnExactPermuteFuncUptoSaid : Prop := fnExactPermuteFuncUptoRow.holds Try.pinned (OpenSpec.upto fnExactPermuteFuncSpec)

/-- 'laws.FnExactNamedFunc', WHERE WHAT IT READS IS OF BULK AT MOST 1048576: true; the input reads as it did. -/
def fnExactNamedFuncUptoRow : OpenClaim := { program := "ytkemegiofiemfab", sum := "ceae6176711634a709d80ecf2c1187cafc05ac387c0b134f5d3ea539b1442dca", func := "loop.example/g01323/laws.FnExactNamedFunc", spec := "fnExactNamedFunc", plainKeys := false, apart := false, narrowed := true }
def FnExactNamedFuncUptoSaid : Prop := fnExactNamedFuncUptoRow.holds Try.pinned (OpenSpec.upto fnExactNamedFuncSpec)

/-- 'laws.FnExactNameOf', WHERE WHAT IT READS IS OF BULK AT MOST 1048576: true; the input reads as it did. -/
def fnExactNameOfUptoRow : OpenClaim := { program := "ytkemegiofiemfab", sum := "ceae6176711634a709d80ecf2c1187cafc05ac387c0b134f5d3ea539b1442dca", func := "loop.example/g01323/laws.FnExactNameOf", spec := "fnExactNameOf", recurses := true, plainKeys := false, apart := false, narrowed := true }
def FnExactNameOfUptoSaid : Prop := fnExactNameOfUptoRow.holds Try.pinned (OpenSpec.upto fnExactNameOfSpec)

/-- 'laws.FnExactFuncText', WHERE WHAT IT READS IS OF BULK AT MOST 1048576: true; the input reads as it did. -/
def fnExactFuncTextUptoRow : OpenClaim := { program := "ytkemegiofiemfab", sum := "ceae6176711634a709d80ecf2c1187cafc05ac387c0b134f5d3ea539b1442dca", func := "loop.example/g01323/laws.FnExactFuncText", spec := "fnExactFuncText", unfollowed := true, recurses := true, plainKeys := false, apart := false, narrowed := true }
def FnExactFuncTextUptoSaid : Prop := fnExactFuncTextUptoRow.holds Try.pinned (OpenSpec.upto fnExactFuncTextSpec)

/-- 'laws.FnExactParseFunc', WHERE WHAT IT READS IS OF BULK AT MOST 1048576: true; the input reads as it did. -/
def fnExactParseFuncUptoRow : OpenClaim := { program := "ytkemegiofiemfab", sum := "ceae6176711634a709d80ecf2c1187cafc05ac387c0b134f5d3ea539b1442dca", func := "loop.example/g01323/laws.FnExactParseFunc", spec := "fnExactParseFunc", inPlace := ["internal/bytealg.IndexByteString", "internal/bytealg.IndexString"], unfollowed := true, recurses := true, named := ["internal/bytealg.MaxLen"], plainKeys := false, apart := false, narrowed := true }
def FnExactParseFuncUptoSaid : Prop := fnExactParseFuncUptoRow.holds Try.pinned (OpenSpec.upto fnExactParseFuncSpec)

/-- 'laws.FnFunctions', WHERE WHAT IT READS IS OF BULK AT MOST 1048576: true; the input reads as it did. -/
def fnFunctionsUptoRow : OpenClaim := { program := "ytkemegiofiemfab", sum := "ceae6176711634a709d80ecf2c1187cafc05ac387c0b134f5d3ea539b1442dca", func := "loop.example/g01323/laws.FnFunctions", spec := "fnFunctions", inPlace := ["internal/bytealg.IndexByteString", "internal/bytealg.IndexString"], unfollowed := true, recurses := true, named := ["internal/bytealg.MaxLen"], plainKeys := false, apart := false, narrowed := true }
def FnFunctionsUptoSaid : Prop := fnFunctionsUptoRow.holds Try.pinned (OpenSpec.upto fnFunctionsSpec)

/-- 'laws.FnPuts', WHERE WHAT IT READS IS OF BULK AT MOST 1048576: true; the input reads as it did. -/
def fnPutsUptoRow : OpenClaim := { program := "ytkemegiofiemfab", sum := "ceae6176711634a709d80ecf2c1187cafc05ac387c0b134f5d3ea539b1442dca", func := "loop.example/g01323/laws.FnPuts", spec := "fnPuts", unfollowed := true, recurses := true, plainKeys := false, apart := false, narrowed := true }
def FnPutsUptoSaid : Prop := fnPutsUptoRow.holds Try.pinned (OpenSpec.upto fnPutsSpec)

end Rows
end Go.Proofs.Ytkemegiofiemfab
