/-
  No cell of these rows narrows 'for every input' (looked for: loops, veiled, ifaces, maps, wideKeys, modest, calm, conditions, laid).
  DERIVED. THE GIVEN ROWS OF THIS SEAT. 10 by the template 'for every input the law returns true; each argument reads behind the call as it read before'; 0 by the template 'total and deterministic' (their statements: YtjecemeccbfldaaTotals.lean).
  GIVEN WITH THE SEED: the statements are not yours to turn. If you find one false, say at which input.
  Laid BY PROGRAM, IN A SANDBOX (cutbox-rows.mjs): the forced cells as the released guide's own fill.sh prints them over the translation c91431e353a5dd20… (all of the seat's roots in one cut). By AI agents, Wed Nov 11 2026. No macro, syntax, notation, axiom, sorry.
-/
import Derived.Test.YtjecemeccbfldaaChecked
import GoSem.Claim
import GoSem.ClaimJoined
import GoSem.ClaimMapViews
import Derived.JoinedTies
import Derived.KernelRfl
namespace Go.Proofs.Ytjecemeccbfldaa
/- THE CELL 'sum', in the pinned program and in every row, IS THE sha256 OF THE DUMP (.gsa) THAT YtjecemeccbfldaaProg.lean LOADS. Nothing in Lean hashes anything: it is a label: what it is worth is what the hold of that sum in a sandbox is worth. -/
noncomputable def Try.pinned : Pinned := { name := "ytjecemeccbfldaa", sum := "c91431e353a5dd2086a682a1ce2bb7c5f652aef8a57e2f826a331cb662ed54ec", checked := Try.checked }
namespace Rows
def none {H : Type} : Left H := { results := [], args := [] }

/-- 'laws.FnExactPolynomialOf': WHATEVER THE INPUT: true; the input reads as it did. -/
def fnExactPolynomialOfSpec : ChangeSpec := { name := "fnExactPolynomialOf", fn := fun _ => fun
  | [d] => { results := [.lit (.bool true)], args := [d] }
  | _ => none }
def fnExactPolynomialOfRow : OpenClaim := { program := "ytjecemeccbfldaa", sum := "c91431e353a5dd2086a682a1ce2bb7c5f652aef8a57e2f826a331cb662ed54ec", func := "loop.example/g01323/laws.FnExactPolynomialOf", spec := "fnExactPolynomialOf", unfollowed := true, recurses := true, plainKeys := false, apart := false }
def FnExactPolynomialOfSaid : Prop := fnExactPolynomialOfRow.holds Try.pinned (OpenSpec.ofChange fnExactPolynomialOfSpec)

/-- ITS FALSE NEIGHBOUR: 'it returns false'. Refute it at one input. -/
def fnExactPolynomialOfWrong : ChangeSpec := { name := "fnExactPolynomialOf", fn := fun _ => fun
  | [d] => { results := [.lit (.bool false)], args := [d] }
  | _ => none }
def FnExactPolynomialOfWrongFalsely : Prop := fnExactPolynomialOfRow.holds Try.pinned (OpenSpec.ofChange fnExactPolynomialOfWrong)

/-- 'laws.FnExactFuncOfPolynomial': WHATEVER THE INPUT: true; the input reads as it did. -/
def fnExactFuncOfPolynomialSpec : ChangeSpec := { name := "fnExactFuncOfPolynomial", fn := fun _ => fun
  | [d1, d2] => { results := [.lit (.bool true)], args := [d1, d2] }
  | _ => none }
def fnExactFuncOfPolynomialRow : OpenClaim := { program := "ytjecemeccbfldaa", sum := "c91431e353a5dd2086a682a1ce2bb7c5f652aef8a57e2f826a331cb662ed54ec", func := "loop.example/g01323/laws.FnExactFuncOfPolynomial", spec := "fnExactFuncOfPolynomial", unfollowed := true, recurses := true, plainKeys := false, apart := false }
def FnExactFuncOfPolynomialSaid : Prop := fnExactFuncOfPolynomialRow.holds Try.pinned (OpenSpec.ofChange fnExactFuncOfPolynomialSpec)

/-- ITS FALSE NEIGHBOUR: 'it returns false'. Refute it at one input. -/
def fnExactFuncOfPolynomialWrong : ChangeSpec := { name := "fnExactFuncOfPolynomial", fn := fun _ => fun
  | [d1, d2] => { results := [.lit (.bool false)], args := [d1, d2] }
  | _ => none }
def FnExactFuncOfPolynomialWrongFalsely : Prop := fnExactFuncOfPolynomialRow.holds Try.pinned (OpenSpec.ofChange fnExactFuncOfPolynomialWrong)

/-- 'laws.FnExactDegreeOfFunc': WHATEVER THE INPUT: true; the input reads as it did. -/
def fnExactDegreeOfFuncSpec : ChangeSpec := { name := "fnExactDegreeOfFunc", fn := fun _ => fun
  | [d] => { results := [.lit (.bool true)], args := [d] }
  | _ => none }
def fnExactDegreeOfFuncRow : OpenClaim := { program := "ytjecemeccbfldaa", sum := "c91431e353a5dd2086a682a1ce2bb7c5f652aef8a57e2f826a331cb662ed54ec", func := "loop.example/g01323/laws.FnExactDegreeOfFunc", spec := "fnExactDegreeOfFunc", unfollowed := true, recurses := true, plainKeys := false, apart := false }
def FnExactDegreeOfFuncSaid : Prop := fnExactDegreeOfFuncRow.holds Try.pinned (OpenSpec.ofChange fnExactDegreeOfFuncSpec)

/-- ITS FALSE NEIGHBOUR: 'it returns false'. Refute it at one input. -/
def fnExactDegreeOfFuncWrong : ChangeSpec := { name := "fnExactDegreeOfFunc", fn := fun _ => fun
  | [d] => { results := [.lit (.bool false)], args := [d] }
  | _ => none }
def FnExactDegreeOfFuncWrongFalsely : Prop := fnExactDegreeOfFuncRow.holds Try.pinned (OpenSpec.ofChange fnExactDegreeOfFuncWrong)

/-- 'laws.FnExactAffinePart': WHATEVER THE INPUT: true; the input reads as it did. -/
def fnExactAffinePartSpec : ChangeSpec := { name := "fnExactAffinePart", fn := fun _ => fun
  | [d] => { results := [.lit (.bool true)], args := [d] }
  | _ => none }
def fnExactAffinePartRow : OpenClaim := { program := "ytjecemeccbfldaa", sum := "c91431e353a5dd2086a682a1ce2bb7c5f652aef8a57e2f826a331cb662ed54ec", func := "loop.example/g01323/laws.FnExactAffinePart", spec := "fnExactAffinePart", unfollowed := true, recurses := true, plainKeys := false, apart := false }
def FnExactAffinePartSaid : Prop := fnExactAffinePartRow.holds Try.pinned (OpenSpec.ofChange fnExactAffinePartSpec)

/-- ITS FALSE NEIGHBOUR: 'it returns false'. Refute it at one input. -/
def fnExactAffinePartWrong : ChangeSpec := { name := "fnExactAffinePart", fn := fun _ => fun
  | [d] => { results := [.lit (.bool false)], args := [d] }
  | _ => none }
def FnExactAffinePartWrongFalsely : Prop := fnExactAffinePartRow.holds Try.pinned (OpenSpec.ofChange fnExactAffinePartWrong)

/-- 'laws.FnExactSumOfFuncs': WHATEVER THE INPUT: true; the input reads as it did. -/
def fnExactSumOfFuncsSpec : ChangeSpec := { name := "fnExactSumOfFuncs", fn := fun _ => fun
  | [d1, d2] => { results := [.lit (.bool true)], args := [d1, d2] }
  | _ => none }
def fnExactSumOfFuncsRow : OpenClaim := { program := "ytjecemeccbfldaa", sum := "c91431e353a5dd2086a682a1ce2bb7c5f652aef8a57e2f826a331cb662ed54ec", func := "loop.example/g01323/laws.FnExactSumOfFuncs", spec := "fnExactSumOfFuncs", plainKeys := false, apart := false }
def FnExactSumOfFuncsSaid : Prop := fnExactSumOfFuncsRow.holds Try.pinned (OpenSpec.ofChange fnExactSumOfFuncsSpec)

/-- ITS FALSE NEIGHBOUR: 'it returns false'. Refute it at one input. -/
def fnExactSumOfFuncsWrong : ChangeSpec := { name := "fnExactSumOfFuncs", fn := fun _ => fun
  | [d1, d2] => { results := [.lit (.bool false)], args := [d1, d2] }
  | _ => none }
def FnExactSumOfFuncsWrongFalsely : Prop := fnExactSumOfFuncsRow.holds Try.pinned (OpenSpec.ofChange fnExactSumOfFuncsWrong)

/-- 'laws.FnExactProductOfFuncs': WHATEVER THE INPUT: true; the input reads as it did. -/
def fnExactProductOfFuncsSpec : ChangeSpec := { name := "fnExactProductOfFuncs", fn := fun _ => fun
  | [d1, d2] => { results := [.lit (.bool true)], args := [d1, d2] }
  | _ => none }
def fnExactProductOfFuncsRow : OpenClaim := { program := "ytjecemeccbfldaa", sum := "c91431e353a5dd2086a682a1ce2bb7c5f652aef8a57e2f826a331cb662ed54ec", func := "loop.example/g01323/laws.FnExactProductOfFuncs", spec := "fnExactProductOfFuncs", plainKeys := false, apart := false }
def FnExactProductOfFuncsSaid : Prop := fnExactProductOfFuncsRow.holds Try.pinned (OpenSpec.ofChange fnExactProductOfFuncsSpec)

/-- ITS FALSE NEIGHBOUR: 'it returns false'. Refute it at one input. -/
def fnExactProductOfFuncsWrong : ChangeSpec := { name := "fnExactProductOfFuncs", fn := fun _ => fun
  | [d1, d2] => { results := [.lit (.bool false)], args := [d1, d2] }
  | _ => none }
def FnExactProductOfFuncsWrongFalsely : Prop := fnExactProductOfFuncsRow.holds Try.pinned (OpenSpec.ofChange fnExactProductOfFuncsWrong)

/-- 'laws.FnExactDerivativeBy': WHATEVER THE INPUT: true; the input reads as it did. -/
def fnExactDerivativeBySpec : ChangeSpec := { name := "fnExactDerivativeBy", fn := fun _ => fun
  | [d1, d2] => { results := [.lit (.bool true)], args := [d1, d2] }
  | _ => none }
def fnExactDerivativeByRow : OpenClaim := { program := "ytjecemeccbfldaa", sum := "c91431e353a5dd2086a682a1ce2bb7c5f652aef8a57e2f826a331cb662ed54ec", func := "loop.example/g01323/laws.FnExactDerivativeBy", spec := "fnExactDerivativeBy", unfollowed := true, recurses := true, plainKeys := false, apart := false }
def FnExactDerivativeBySaid : Prop := fnExactDerivativeByRow.holds Try.pinned (OpenSpec.ofChange fnExactDerivativeBySpec)

/-- ITS FALSE NEIGHBOUR: 'it returns false'. Refute it at one input. -/
def fnExactDerivativeByWrong : ChangeSpec := { name := "fnExactDerivativeBy", fn := fun _ => fun
  | [d1, d2] => { results := [.lit (.bool false)], args := [d1, d2] }
  | _ => none }
def FnExactDerivativeByWrongFalsely : Prop := fnExactDerivativeByRow.holds Try.pinned (OpenSpec.ofChange fnExactDerivativeByWrong)

/-- 'laws.FnPolynomials': WHATEVER THE INPUT: true; the input reads as it did. -/
def fnPolynomialsSpec : ChangeSpec := { name := "fnPolynomials", fn := fun _ => fun
  | [d] => { results := [.lit (.bool true)], args := [d] }
  | _ => none }
def fnPolynomialsRow : OpenClaim := { program := "ytjecemeccbfldaa", sum := "c91431e353a5dd2086a682a1ce2bb7c5f652aef8a57e2f826a331cb662ed54ec", func := "loop.example/g01323/laws.FnPolynomials", spec := "fnPolynomials", unfollowed := true, recurses := true, plainKeys := false, apart := false }
def FnPolynomialsSaid : Prop := fnPolynomialsRow.holds Try.pinned (OpenSpec.ofChange fnPolynomialsSpec)

/-- ITS FALSE NEIGHBOUR: 'it returns false'. Refute it at one input. -/
def fnPolynomialsWrong : ChangeSpec := { name := "fnPolynomials", fn := fun _ => fun
  | [d] => { results := [.lit (.bool false)], args := [d] }
  | _ => none }
def FnPolynomialsWrongFalsely : Prop := fnPolynomialsRow.holds Try.pinned (OpenSpec.ofChange fnPolynomialsWrong)

/-- 'laws.FnFunctions': WHATEVER THE INPUT: true; the input reads as it did. -/
def fnFunctionsSpec : ChangeSpec := { name := "fnFunctions", fn := fun _ => fun
  | [d] => { results := [.lit (.bool true)], args := [d] }
  | _ => none }
def fnFunctionsRow : OpenClaim := { program := "ytjecemeccbfldaa", sum := "c91431e353a5dd2086a682a1ce2bb7c5f652aef8a57e2f826a331cb662ed54ec", func := "loop.example/g01323/laws.FnFunctions", spec := "fnFunctions", inPlace := ["internal/bytealg.IndexByteString", "internal/bytealg.IndexString"], unfollowed := true, recurses := true, named := ["internal/bytealg.MaxLen"], plainKeys := false, apart := false }
def FnFunctionsSaid : Prop := fnFunctionsRow.holds Try.pinned (OpenSpec.ofChange fnFunctionsSpec)

/-- ITS FALSE NEIGHBOUR: 'it returns false'. Refute it at one input. -/
def fnFunctionsWrong : ChangeSpec := { name := "fnFunctions", fn := fun _ => fun
  | [d] => { results := [.lit (.bool false)], args := [d] }
  | _ => none }
def FnFunctionsWrongFalsely : Prop := fnFunctionsRow.holds Try.pinned (OpenSpec.ofChange fnFunctionsWrong)

/-- 'laws.FnPuts': WHATEVER THE INPUT: true; the input reads as it did. -/
def fnPutsSpec : ChangeSpec := { name := "fnPuts", fn := fun _ => fun
  | [d] => { results := [.lit (.bool true)], args := [d] }
  | _ => none }
def fnPutsRow : OpenClaim := { program := "ytjecemeccbfldaa", sum := "c91431e353a5dd2086a682a1ce2bb7c5f652aef8a57e2f826a331cb662ed54ec", func := "loop.example/g01323/laws.FnPuts", spec := "fnPuts", unfollowed := true, recurses := true, plainKeys := false, apart := false }
def FnPutsSaid : Prop := fnPutsRow.holds Try.pinned (OpenSpec.ofChange fnPutsSpec)

/-- ITS FALSE NEIGHBOUR: 'it returns false'. Refute it at one input. -/
def fnPutsWrong : ChangeSpec := { name := "fnPuts", fn := fun _ => fun
  | [d] => { results := [.lit (.bool false)], args := [d] }
  | _ => none }
def FnPutsWrongFalsely : Prop := fnPutsRow.holds Try.pinned (OpenSpec.ofChange fnPutsWrong)

/- THE SECOND FORM. 'bulk': how many values and letters a reading holds, each counted each time it is reached (what is shared counts as often as it is met; a slice's spare places count too). A statement '..UptoSaid' is the law's where the arguments, and the package variables that the reading takes, are together of bulk at most 1048576: NARROWER than '..Said'. Prove '..Said' where nothing that the law and all that it calls make is longer than what came in: it says more and counts as full. Else prove '..UptoSaid'. A law counts once. -/
mutual
def uptoBulk {H : Type} : DataW H → Nat
  | .lit (.string bytes) => bytes.length + 1
  | .lit _ => 1
  | .nil => 1
  | .ptr d => uptoBulk d + 1
  | .slice elems spare => uptoBulkAll elems + uptoBulkAll spare + 1
  | .agg parts => uptoBulkAll parts + 1
  | .iface _ d => uptoBulk d + 1
  | .map entries => uptoBulkEntries entries + 1
  | .held _ => 1
def uptoBulkAll {H : Type} : List (DataW H) → Nat
  | [] => 0
  | d :: r => uptoBulk d + uptoBulkAll r
def uptoBulkEntries {H : Type} : List (Lit × DataW H) → Nat
  | [] => 0
  | x :: r => uptoBulkEntry x + uptoBulkEntries r
def uptoBulkEntry {H : Type} : Lit × DataW H → Nat
  | (.string bytes, d) => bytes.length + uptoBulk d + 1
  | (_, d) => uptoBulk d + 1
 end
def uptoSmall : (H : Type) → List (DataW H) → Bool := fun _ ds => decide (uptoBulkAll ds ≤ 1048576)
def OpenSpec.upto (s : _root_.Go.ChangeSpec) : _root_.Go.OpenSpec := { _root_.Go.OpenSpec.ofChange s with cond := some uptoSmall }

/-- 'laws.FnExactPolynomialOf', WHERE WHAT IT READS IS OF BULK AT MOST 1048576: true; the input reads as it did. -/
def fnExactPolynomialOfUptoRow : OpenClaim := { program := "ytjecemeccbfldaa", sum := "c91431e353a5dd2086a682a1ce2bb7c5f652aef8a57e2f826a331cb662ed54ec", func := "loop.example/g01323/laws.FnExactPolynomialOf", spec := "fnExactPolynomialOf", unfollowed := true, recurses := true, plainKeys := false, apart := false, narrowed := true }
def FnExactPolynomialOfUptoSaid : Prop := fnExactPolynomialOfUptoRow.holds Try.pinned (OpenSpec.upto fnExactPolynomialOfSpec)

/-- 'laws.FnExactFuncOfPolynomial', WHERE WHAT IT READS IS OF BULK AT MOST 1048576: true; the input reads as it did. -/
def fnExactFuncOfPolynomialUptoRow : OpenClaim := { program := "ytjecemeccbfldaa", sum := "c91431e353a5dd2086a682a1ce2bb7c5f652aef8a57e2f826a331cb662ed54ec", func := "loop.example/g01323/laws.FnExactFuncOfPolynomial", spec := "fnExactFuncOfPolynomial", unfollowed := true, recurses := true, plainKeys := false, apart := false, narrowed := true }
def FnExactFuncOfPolynomialUptoSaid : Prop := fnExactFuncOfPolynomialUptoRow.holds Try.pinned (OpenSpec.upto fnExactFuncOfPolynomialSpec)

/-- 'laws.FnExactDegreeOfFunc', WHERE WHAT IT READS IS OF BULK AT MOST 1048576: true; the input reads as it did. -/
def fnExactDegreeOfFuncUptoRow : OpenClaim := { program := "ytjecemeccbfldaa", sum := "c91431e353a5dd2086a682a1ce2bb7c5f652aef8a57e2f826a331cb662ed54ec", func := "loop.example/g01323/laws.FnExactDegreeOfFunc", spec := "fnExactDegreeOfFunc", unfollowed := true, recurses := true, plainKeys := false, apart := false, narrowed := true }
def FnExactDegreeOfFuncUptoSaid : Prop := fnExactDegreeOfFuncUptoRow.holds Try.pinned (OpenSpec.upto fnExactDegreeOfFuncSpec)

/-- 'laws.FnExactAffinePart', WHERE WHAT IT READS IS OF BULK AT MOST 1048576: true; the input reads as it did. -/
def fnExactAffinePartUptoRow : OpenClaim := { program := "ytjecemeccbfldaa", sum := "c91431e353a5dd2086a682a1ce2bb7c5f652aef8a57e2f826a331cb662ed54ec", func := "loop.example/g01323/laws.FnExactAffinePart", spec := "fnExactAffinePart", unfollowed := true, recurses := true, plainKeys := false, apart := false, narrowed := true }
def FnExactAffinePartUptoSaid : Prop := fnExactAffinePartUptoRow.holds Try.pinned (OpenSpec.upto fnExactAffinePartSpec)

/-- 'laws.FnExactSumOfFuncs', WHERE WHAT IT READS IS OF BULK AT MOST 1048576: true; the input reads as it did. -/
def fnExactSumOfFuncsUptoRow : OpenClaim := { program := "ytjecemeccbfldaa", sum := "c91431e353a5dd2086a682a1ce2bb7c5f652aef8a57e2f826a331cb662ed54ec", func := "loop.example/g01323/laws.FnExactSumOfFuncs", spec := "fnExactSumOfFuncs", plainKeys := false, apart := false, narrowed := true }
def FnExactSumOfFuncsUptoSaid : Prop := fnExactSumOfFuncsUptoRow.holds Try.pinned (OpenSpec.upto fnExactSumOfFuncsSpec)

/-- 'laws.FnExactProductOfFuncs', WHERE WHAT IT READS IS OF BULK AT MOST 1048576: true; the input reads as it did. -/
def fnExactProductOfFuncsUptoRow : OpenClaim := { program := "ytjecemeccbfldaa", sum := "c91431e353a5dd2086a682a1ce2bb7c5f652aef8a57e2f826a331cb662ed54ec", func := "loop.example/g01323/laws.FnExactProductOfFuncs", spec := "fnExactProductOfFuncs", plainKeys := false, apart := false, narrowed := true }
def FnExactProductOfFuncsUptoSaid : Prop := fnExactProductOfFuncsUptoRow.holds Try.pinned (OpenSpec.upto fnExactProductOfFuncsSpec)

/-- 'laws.FnExactDerivativeBy', WHERE WHAT IT READS IS OF BULK AT MOST 1048576: true; the input reads as it did. -/
def fnExactDerivativeByUptoRow : OpenClaim := { program := "ytjecemeccbfldaa", sum := "c91431e353a5dd2086a682a1ce2bb7c5f652aef8a57e2f826a331cb662ed54ec", func := "loop.example/g01323/laws.FnExactDerivativeBy", spec := "fnExactDerivativeBy", unfollowed := true, recurses := true, plainKeys := false, apart := false, narrowed := true }
def FnExactDerivativeByUptoSaid : Prop := fnExactDerivativeByUptoRow.holds Try.pinned (OpenSpec.upto fnExactDerivativeBySpec)

/-- 'laws.FnPolynomials', WHERE WHAT IT READS IS OF BULK AT MOST 1048576: true; the input reads as it did. -/
def fnPolynomialsUptoRow : OpenClaim := { program := "ytjecemeccbfldaa", sum := "c91431e353a5dd2086a682a1ce2bb7c5f652aef8a57e2f826a331cb662ed54ec", func := "loop.example/g01323/laws.FnPolynomials", spec := "fnPolynomials", unfollowed := true, recurses := true, plainKeys := false, apart := false, narrowed := true }
def FnPolynomialsUptoSaid : Prop := fnPolynomialsUptoRow.holds Try.pinned (OpenSpec.upto fnPolynomialsSpec)

/-- 'laws.FnFunctions', WHERE WHAT IT READS IS OF BULK AT MOST 1048576: true; the input reads as it did. -/
def fnFunctionsUptoRow : OpenClaim := { program := "ytjecemeccbfldaa", sum := "c91431e353a5dd2086a682a1ce2bb7c5f652aef8a57e2f826a331cb662ed54ec", func := "loop.example/g01323/laws.FnFunctions", spec := "fnFunctions", inPlace := ["internal/bytealg.IndexByteString", "internal/bytealg.IndexString"], unfollowed := true, recurses := true, named := ["internal/bytealg.MaxLen"], plainKeys := false, apart := false, narrowed := true }
def FnFunctionsUptoSaid : Prop := fnFunctionsUptoRow.holds Try.pinned (OpenSpec.upto fnFunctionsSpec)

/-- 'laws.FnPuts', WHERE WHAT IT READS IS OF BULK AT MOST 1048576: true; the input reads as it did. -/
def fnPutsUptoRow : OpenClaim := { program := "ytjecemeccbfldaa", sum := "c91431e353a5dd2086a682a1ce2bb7c5f652aef8a57e2f826a331cb662ed54ec", func := "loop.example/g01323/laws.FnPuts", spec := "fnPuts", unfollowed := true, recurses := true, plainKeys := false, apart := false, narrowed := true }
def FnPutsUptoSaid : Prop := fnPutsUptoRow.holds Try.pinned (OpenSpec.upto fnPutsSpec)

end Rows
end Go.Proofs.Ytjecemeccbfldaa
