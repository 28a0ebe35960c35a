/-
  NARROWER THAN 'FOR EVERY INPUT', by the rows' own cells (each row's printed sentence says how): FnExactIsFormula: ifaces, laid · FnExactFuncOfFormula: ifaces, laid · FnExactSizeOfFormula: ifaces, laid · FnExactDepthOfFormula: ifaces, laid · FnExactVariablesOfFormula: ifaces, laid · FnExactDualFormula: ifaces, laid · FnExactPutFormulas: ifaces, laid · FnExactPartsOfFormula: ifaces, laid · FnExactLeastSizeOf: ifaces, laid · FnExactSizeNumbers: ifaces, laid.
  DERIVED. THE GIVEN ROWS OF THIS SEAT. 10 by the template 'for every input the law returns true; each argument reads behind the call as it read before'; 0 by the template 'total and deterministic' (their statements: YtleighihfgabkaaDoorTotals.lean).
  GIVEN WITH THE SEED: the statements are not yours to turn. If you find one false, say at which input.
  Laid BY PROGRAM, IN A SANDBOX (cutbox-rows.mjs): the forced cells as the released guide's own fill.sh prints them over the translation a46d44549d73d8dd… (all of the seat's roots in one cut). By AI agents, Wed Nov 11 2026. No macro, syntax, notation, axiom, sorry.
-/
import Derived.Test.YtleighihfgabkaaDoorChecked
import GoSem.Claim
import GoSem.ClaimJoined
import GoSem.ClaimMapViews
import Derived.JoinedTies
import Derived.KernelRfl
namespace Go.Proofs.YtleighihfgabkaaDoor
/- THE CELL 'sum', in the pinned program and in every row, IS THE sha256 OF THE DUMP (.gsa) THAT YtleighihfgabkaaDoorProg.lean LOADS. Nothing in Lean hashes anything: it is a label: what it is worth is what the hold of that sum in a sandbox is worth. -/
noncomputable def Tryd.pinned : Pinned := { name := "ytleighihfgabkaadoor", sum := "a46d44549d73d8dd97d2480a8c20435a79fd2102c96e5de2065589a70b8c24f9", checked := Tryd.checked }
namespace Rows
def none {H : Type} : Left H := { results := [], args := [] }

/- WHAT THE LISTED PACKAGE-LEVEL VARIABLES READ AS WHEN THE CALL BEGINS. Each datum BY PROGRAM (the guide's laid-datum.mjs) off the statement by which the dump's own 'gosem.cut.vars' lays the variable. In a bare row this is a premise. The card (YtleighihfgabkaaDoorCards.lean) ties it to the program's text. -/
def laid_loop_example_g01323_impl_errWrongText {H : Type} : DataW H := .iface "*errors.errorString" (.ptr (.agg [.lit (.string [116, 104, 101, 32, 116, 101, 120, 116, 32, 105, 115, 32, 110, 111, 116, 32, 97, 32, 102, 111, 114, 109, 117, 108, 97, 44, 32, 111, 114, 32, 110, 111, 116, 32, 97, 32, 99, 104, 111, 105, 99, 101, 32, 111, 102, 32, 103, 97, 116, 101, 115])]))

/-- 'laws.FnExactIsFormula': WHATEVER THE INPUT: true; the input reads as it did. -/
def fnExactIsFormulaSpec : ChangeSpec := { name := "fnExactIsFormula", vars := ["loop.example/g01323/impl.errWrongText"], fn := fun _ => fun
  | [d, g1] => { results := [.lit (.bool true)], args := [d], vars := [g1] }
  | _ => none }
def fnExactIsFormulaRow : OpenClaim := { program := "ytleighihfgabkaadoor", sum := "a46d44549d73d8dd97d2480a8c20435a79fd2102c96e5de2065589a70b8c24f9", func := "loop.example/g01323/laws.FnExactIsFormula", spec := "fnExactIsFormula", inPlace := ["internal/bytealg.IndexByteString"], unfollowed := true, recurses := true, named := ["loop.example/g01323/impl.errWrongText"], ifaces := true, apart := false, laid := [("loop.example/g01323/impl.errWrongText", laid_loop_example_g01323_impl_errWrongText)] }
def FnExactIsFormulaSaid : Prop := fnExactIsFormulaRow.holds Tryd.pinned (OpenSpec.ofChange fnExactIsFormulaSpec)

/-- ITS FALSE NEIGHBOUR: 'it returns false'. Refute it at one input. -/
def fnExactIsFormulaWrong : ChangeSpec := { name := "fnExactIsFormula", vars := ["loop.example/g01323/impl.errWrongText"], fn := fun _ => fun
  | [d, g1] => { results := [.lit (.bool false)], args := [d], vars := [g1] }
  | _ => none }
def FnExactIsFormulaWrongFalsely : Prop := fnExactIsFormulaRow.holds Tryd.pinned (OpenSpec.ofChange fnExactIsFormulaWrong)

/-- 'laws.FnExactFuncOfFormula': WHATEVER THE INPUT: true; the input reads as it did. -/
def fnExactFuncOfFormulaSpec : ChangeSpec := { name := "fnExactFuncOfFormula", vars := ["loop.example/g01323/impl.errWrongText"], fn := fun _ => fun
  | [d1, d2, g1] => { results := [.lit (.bool true)], args := [d1, d2], vars := [g1] }
  | _ => none }
def fnExactFuncOfFormulaRow : OpenClaim := { program := "ytleighihfgabkaadoor", sum := "a46d44549d73d8dd97d2480a8c20435a79fd2102c96e5de2065589a70b8c24f9", func := "loop.example/g01323/laws.FnExactFuncOfFormula", spec := "fnExactFuncOfFormula", inPlace := ["internal/bytealg.IndexByteString", "internal/bytealg.IndexString"], unfollowed := true, recurses := true, named := ["loop.example/g01323/impl.errWrongText", "internal/bytealg.MaxLen"], ifaces := true, apart := false, laid := [("loop.example/g01323/impl.errWrongText", laid_loop_example_g01323_impl_errWrongText)] }
def FnExactFuncOfFormulaSaid : Prop := fnExactFuncOfFormulaRow.holds Tryd.pinned (OpenSpec.ofChange fnExactFuncOfFormulaSpec)

/-- ITS FALSE NEIGHBOUR: 'it returns false'. Refute it at one input. -/
def fnExactFuncOfFormulaWrong : ChangeSpec := { name := "fnExactFuncOfFormula", vars := ["loop.example/g01323/impl.errWrongText"], fn := fun _ => fun
  | [d1, d2, g1] => { results := [.lit (.bool false)], args := [d1, d2], vars := [g1] }
  | _ => none }
def FnExactFuncOfFormulaWrongFalsely : Prop := fnExactFuncOfFormulaRow.holds Tryd.pinned (OpenSpec.ofChange fnExactFuncOfFormulaWrong)

/-- 'laws.FnExactSizeOfFormula': WHATEVER THE INPUT: true; the input reads as it did. -/
def fnExactSizeOfFormulaSpec : ChangeSpec := { name := "fnExactSizeOfFormula", vars := ["loop.example/g01323/impl.errWrongText"], fn := fun _ => fun
  | [d, g1] => { results := [.lit (.bool true)], args := [d], vars := [g1] }
  | _ => none }
def fnExactSizeOfFormulaRow : OpenClaim := { program := "ytleighihfgabkaadoor", sum := "a46d44549d73d8dd97d2480a8c20435a79fd2102c96e5de2065589a70b8c24f9", func := "loop.example/g01323/laws.FnExactSizeOfFormula", spec := "fnExactSizeOfFormula", inPlace := ["internal/bytealg.IndexByteString"], unfollowed := true, recurses := true, named := ["loop.example/g01323/impl.errWrongText"], ifaces := true, apart := false, laid := [("loop.example/g01323/impl.errWrongText", laid_loop_example_g01323_impl_errWrongText)] }
def FnExactSizeOfFormulaSaid : Prop := fnExactSizeOfFormulaRow.holds Tryd.pinned (OpenSpec.ofChange fnExactSizeOfFormulaSpec)

/-- ITS FALSE NEIGHBOUR: 'it returns false'. Refute it at one input. -/
def fnExactSizeOfFormulaWrong : ChangeSpec := { name := "fnExactSizeOfFormula", vars := ["loop.example/g01323/impl.errWrongText"], fn := fun _ => fun
  | [d, g1] => { results := [.lit (.bool false)], args := [d], vars := [g1] }
  | _ => none }
def FnExactSizeOfFormulaWrongFalsely : Prop := fnExactSizeOfFormulaRow.holds Tryd.pinned (OpenSpec.ofChange fnExactSizeOfFormulaWrong)

/-- 'laws.FnExactDepthOfFormula': WHATEVER THE INPUT: true; the input reads as it did. -/
def fnExactDepthOfFormulaSpec : ChangeSpec := { name := "fnExactDepthOfFormula", vars := ["loop.example/g01323/impl.errWrongText"], fn := fun _ => fun
  | [d, g1] => { results := [.lit (.bool true)], args := [d], vars := [g1] }
  | _ => none }
def fnExactDepthOfFormulaRow : OpenClaim := { program := "ytleighihfgabkaadoor", sum := "a46d44549d73d8dd97d2480a8c20435a79fd2102c96e5de2065589a70b8c24f9", func := "loop.example/g01323/laws.FnExactDepthOfFormula", spec := "fnExactDepthOfFormula", inPlace := ["internal/bytealg.IndexByteString"], unfollowed := true, recurses := true, named := ["loop.example/g01323/impl.errWrongText"], ifaces := true, apart := false, laid := [("loop.example/g01323/impl.errWrongText", laid_loop_example_g01323_impl_errWrongText)] }
def FnExactDepthOfFormulaSaid : Prop := fnExactDepthOfFormulaRow.holds Tryd.pinned (OpenSpec.ofChange fnExactDepthOfFormulaSpec)

/-- ITS FALSE NEIGHBOUR: 'it returns false'. Refute it at one input. -/
def fnExactDepthOfFormulaWrong : ChangeSpec := { name := "fnExactDepthOfFormula", vars := ["loop.example/g01323/impl.errWrongText"], fn := fun _ => fun
  | [d, g1] => { results := [.lit (.bool false)], args := [d], vars := [g1] }
  | _ => none }
def FnExactDepthOfFormulaWrongFalsely : Prop := fnExactDepthOfFormulaRow.holds Tryd.pinned (OpenSpec.ofChange fnExactDepthOfFormulaWrong)

/-- 'laws.FnExactVariablesOfFormula': WHATEVER THE INPUT: true; the input reads as it did. -/
def fnExactVariablesOfFormulaSpec : ChangeSpec := { name := "fnExactVariablesOfFormula", vars := ["loop.example/g01323/impl.errWrongText"], fn := fun _ => fun
  | [d, g1] => { results := [.lit (.bool true)], args := [d], vars := [g1] }
  | _ => none }
def fnExactVariablesOfFormulaRow : OpenClaim := { program := "ytleighihfgabkaadoor", sum := "a46d44549d73d8dd97d2480a8c20435a79fd2102c96e5de2065589a70b8c24f9", func := "loop.example/g01323/laws.FnExactVariablesOfFormula", spec := "fnExactVariablesOfFormula", inPlace := ["internal/bytealg.IndexByteString"], unfollowed := true, recurses := true, named := ["loop.example/g01323/impl.errWrongText"], ifaces := true, apart := false, laid := [("loop.example/g01323/impl.errWrongText", laid_loop_example_g01323_impl_errWrongText)] }
def FnExactVariablesOfFormulaSaid : Prop := fnExactVariablesOfFormulaRow.holds Tryd.pinned (OpenSpec.ofChange fnExactVariablesOfFormulaSpec)

/-- ITS FALSE NEIGHBOUR: 'it returns false'. Refute it at one input. -/
def fnExactVariablesOfFormulaWrong : ChangeSpec := { name := "fnExactVariablesOfFormula", vars := ["loop.example/g01323/impl.errWrongText"], fn := fun _ => fun
  | [d, g1] => { results := [.lit (.bool false)], args := [d], vars := [g1] }
  | _ => none }
def FnExactVariablesOfFormulaWrongFalsely : Prop := fnExactVariablesOfFormulaRow.holds Tryd.pinned (OpenSpec.ofChange fnExactVariablesOfFormulaWrong)

/-- 'laws.FnExactDualFormula': WHATEVER THE INPUT: true; the input reads as it did. -/
def fnExactDualFormulaSpec : ChangeSpec := { name := "fnExactDualFormula", vars := ["loop.example/g01323/impl.errWrongText"], fn := fun _ => fun
  | [d, g1] => { results := [.lit (.bool true)], args := [d], vars := [g1] }
  | _ => none }
def fnExactDualFormulaRow : OpenClaim := { program := "ytleighihfgabkaadoor", sum := "a46d44549d73d8dd97d2480a8c20435a79fd2102c96e5de2065589a70b8c24f9", func := "loop.example/g01323/laws.FnExactDualFormula", spec := "fnExactDualFormula", inPlace := ["internal/bytealg.IndexByteString"], unfollowed := true, recurses := true, named := ["loop.example/g01323/impl.errWrongText"], ifaces := true, apart := false, laid := [("loop.example/g01323/impl.errWrongText", laid_loop_example_g01323_impl_errWrongText)] }
def FnExactDualFormulaSaid : Prop := fnExactDualFormulaRow.holds Tryd.pinned (OpenSpec.ofChange fnExactDualFormulaSpec)

/-- ITS FALSE NEIGHBOUR: 'it returns false'. Refute it at one input. -/
def fnExactDualFormulaWrong : ChangeSpec := { name := "fnExactDualFormula", vars := ["loop.example/g01323/impl.errWrongText"], fn := fun _ => fun
  | [d, g1] => { results := [.lit (.bool false)], args := [d], vars := [g1] }
  | _ => none }
def FnExactDualFormulaWrongFalsely : Prop := fnExactDualFormulaRow.holds Tryd.pinned (OpenSpec.ofChange fnExactDualFormulaWrong)

/-- 'laws.FnExactPutFormulas': WHATEVER THE INPUT: true; the input reads as it did. -/
def fnExactPutFormulasSpec : ChangeSpec := { name := "fnExactPutFormulas", vars := ["loop.example/g01323/impl.errWrongText"], fn := fun _ => fun
  | [d1, d2, g1] => { results := [.lit (.bool true)], args := [d1, d2], vars := [g1] }
  | _ => none }
def fnExactPutFormulasRow : OpenClaim := { program := "ytleighihfgabkaadoor", sum := "a46d44549d73d8dd97d2480a8c20435a79fd2102c96e5de2065589a70b8c24f9", func := "loop.example/g01323/laws.FnExactPutFormulas", spec := "fnExactPutFormulas", inPlace := ["internal/bytealg.IndexByteString", "internal/abi.NoEscape"], unfollowed := true, recurses := true, named := ["loop.example/g01323/impl.errWrongText"], ifaces := true, apart := false, laid := [("loop.example/g01323/impl.errWrongText", laid_loop_example_g01323_impl_errWrongText)] }
def FnExactPutFormulasSaid : Prop := fnExactPutFormulasRow.holds Tryd.pinned (OpenSpec.ofChange fnExactPutFormulasSpec)

/-- ITS FALSE NEIGHBOUR: 'it returns false'. Refute it at one input. -/
def fnExactPutFormulasWrong : ChangeSpec := { name := "fnExactPutFormulas", vars := ["loop.example/g01323/impl.errWrongText"], fn := fun _ => fun
  | [d1, d2, g1] => { results := [.lit (.bool false)], args := [d1, d2], vars := [g1] }
  | _ => none }
def FnExactPutFormulasWrongFalsely : Prop := fnExactPutFormulasRow.holds Tryd.pinned (OpenSpec.ofChange fnExactPutFormulasWrong)

/-- 'laws.FnExactPartsOfFormula': WHATEVER THE INPUT: true; the input reads as it did. -/
def fnExactPartsOfFormulaSpec : ChangeSpec := { name := "fnExactPartsOfFormula", vars := ["loop.example/g01323/impl.errWrongText"], fn := fun _ => fun
  | [d, g1] => { results := [.lit (.bool true)], args := [d], vars := [g1] }
  | _ => none }
def fnExactPartsOfFormulaRow : OpenClaim := { program := "ytleighihfgabkaadoor", sum := "a46d44549d73d8dd97d2480a8c20435a79fd2102c96e5de2065589a70b8c24f9", func := "loop.example/g01323/laws.FnExactPartsOfFormula", spec := "fnExactPartsOfFormula", inPlace := ["internal/bytealg.IndexByteString"], unfollowed := true, recurses := true, named := ["loop.example/g01323/impl.errWrongText"], ifaces := true, apart := false, laid := [("loop.example/g01323/impl.errWrongText", laid_loop_example_g01323_impl_errWrongText)] }
def FnExactPartsOfFormulaSaid : Prop := fnExactPartsOfFormulaRow.holds Tryd.pinned (OpenSpec.ofChange fnExactPartsOfFormulaSpec)

/-- ITS FALSE NEIGHBOUR: 'it returns false'. Refute it at one input. -/
def fnExactPartsOfFormulaWrong : ChangeSpec := { name := "fnExactPartsOfFormula", vars := ["loop.example/g01323/impl.errWrongText"], fn := fun _ => fun
  | [d, g1] => { results := [.lit (.bool false)], args := [d], vars := [g1] }
  | _ => none }
def FnExactPartsOfFormulaWrongFalsely : Prop := fnExactPartsOfFormulaRow.holds Tryd.pinned (OpenSpec.ofChange fnExactPartsOfFormulaWrong)

/-- 'laws.FnExactLeastSizeOf': WHATEVER THE INPUT: true; the input reads as it did. -/
def fnExactLeastSizeOfSpec : ChangeSpec := { name := "fnExactLeastSizeOf", vars := ["loop.example/g01323/impl.errWrongText"], fn := fun _ => fun
  | [d1, d2, g1] => { results := [.lit (.bool true)], args := [d1, d2], vars := [g1] }
  | _ => none }
def fnExactLeastSizeOfRow : OpenClaim := { program := "ytleighihfgabkaadoor", sum := "a46d44549d73d8dd97d2480a8c20435a79fd2102c96e5de2065589a70b8c24f9", func := "loop.example/g01323/laws.FnExactLeastSizeOf", spec := "fnExactLeastSizeOf", inPlace := ["internal/bytealg.IndexByteString"], unfollowed := true, recurses := true, named := ["loop.example/g01323/impl.errWrongText"], ifaces := true, apart := false, laid := [("loop.example/g01323/impl.errWrongText", laid_loop_example_g01323_impl_errWrongText)] }
def FnExactLeastSizeOfSaid : Prop := fnExactLeastSizeOfRow.holds Tryd.pinned (OpenSpec.ofChange fnExactLeastSizeOfSpec)

/-- ITS FALSE NEIGHBOUR: 'it returns false'. Refute it at one input. -/
def fnExactLeastSizeOfWrong : ChangeSpec := { name := "fnExactLeastSizeOf", vars := ["loop.example/g01323/impl.errWrongText"], fn := fun _ => fun
  | [d1, d2, g1] => { results := [.lit (.bool false)], args := [d1, d2], vars := [g1] }
  | _ => none }
def FnExactLeastSizeOfWrongFalsely : Prop := fnExactLeastSizeOfRow.holds Tryd.pinned (OpenSpec.ofChange fnExactLeastSizeOfWrong)

/-- 'laws.FnExactSizeNumbers': WHATEVER THE INPUT: true; the input reads as it did. -/
def fnExactSizeNumbersSpec : ChangeSpec := { name := "fnExactSizeNumbers", vars := ["loop.example/g01323/impl.errWrongText"], fn := fun _ => fun
  | [d1, d2, g1] => { results := [.lit (.bool true)], args := [d1, d2], vars := [g1] }
  | _ => none }
def fnExactSizeNumbersRow : OpenClaim := { program := "ytleighihfgabkaadoor", sum := "a46d44549d73d8dd97d2480a8c20435a79fd2102c96e5de2065589a70b8c24f9", func := "loop.example/g01323/laws.FnExactSizeNumbers", spec := "fnExactSizeNumbers", inPlace := ["internal/bytealg.IndexByteString"], unfollowed := true, recurses := true, named := ["loop.example/g01323/impl.errWrongText"], ifaces := true, apart := false, laid := [("loop.example/g01323/impl.errWrongText", laid_loop_example_g01323_impl_errWrongText)] }
def FnExactSizeNumbersSaid : Prop := fnExactSizeNumbersRow.holds Tryd.pinned (OpenSpec.ofChange fnExactSizeNumbersSpec)

/-- ITS FALSE NEIGHBOUR: 'it returns false'. Refute it at one input. -/
def fnExactSizeNumbersWrong : ChangeSpec := { name := "fnExactSizeNumbers", vars := ["loop.example/g01323/impl.errWrongText"], fn := fun _ => fun
  | [d1, d2, g1] => { results := [.lit (.bool false)], args := [d1, d2], vars := [g1] }
  | _ => none }
def FnExactSizeNumbersWrongFalsely : Prop := fnExactSizeNumbersRow.holds Tryd.pinned (OpenSpec.ofChange fnExactSizeNumbersWrong)

/- THE SECOND FORM. 'bulk': how many values and letters a reading holds, each counted each time it is reached (what is shared counts as often as it is met; a slice's spare places count too). A statement '..UptoSaid' is the law's where the arguments, and the package variables that the reading takes, are together of bulk at most 1048576: NARROWER than '..Said'. Prove '..Said' where nothing that the law and all that it calls make is longer than what came in: it says more and counts as full. Else prove '..UptoSaid'. A law counts once. -/
mutual
def uptoBulk {H : Type} : DataW H → Nat
  | .lit (.string bytes) => bytes.length + 1
  | .lit _ => 1
  | .nil => 1
  | .ptr d => uptoBulk d + 1
  | .slice elems spare => uptoBulkAll elems + uptoBulkAll spare + 1
  | .agg parts => uptoBulkAll parts + 1
  | .iface _ d => uptoBulk d + 1
  | .map entries => uptoBulkEntries entries + 1
  | .held _ => 1
def uptoBulkAll {H : Type} : List (DataW H) → Nat
  | [] => 0
  | d :: r => uptoBulk d + uptoBulkAll r
def uptoBulkEntries {H : Type} : List (Lit × DataW H) → Nat
  | [] => 0
  | x :: r => uptoBulkEntry x + uptoBulkEntries r
def uptoBulkEntry {H : Type} : Lit × DataW H → Nat
  | (.string bytes, d) => bytes.length + uptoBulk d + 1
  | (_, d) => uptoBulk d + 1
 end
def uptoSmall : (H : Type) → List (DataW H) → Bool := fun _ ds => decide (uptoBulkAll ds ≤ 1048576)
def OpenSpec.upto (s : _root_.Go.ChangeSpec) : _root_.Go.OpenSpec := { _root_.Go.OpenSpec.ofChange s with cond := some uptoSmall }

/-- 'laws.FnExactIsFormula', WHERE WHAT IT READS IS OF BULK AT MOST 1048576: true; the input reads as it did. -/
def fnExactIsFormulaUptoRow : OpenClaim := { program := "ytleighihfgabkaadoor", sum := "a46d44549d73d8dd97d2480a8c20435a79fd2102c96e5de2065589a70b8c24f9", func := "loop.example/g01323/laws.FnExactIsFormula", spec := "fnExactIsFormula", inPlace := ["internal/bytealg.IndexByteString"], unfollowed := true, recurses := true, named := ["loop.example/g01323/impl.errWrongText"], ifaces := true, apart := false, laid := [("loop.example/g01323/impl.errWrongText", laid_loop_example_g01323_impl_errWrongText)], narrowed := true }
def FnExactIsFormulaUptoSaid : Prop := fnExactIsFormulaUptoRow.holds Tryd.pinned (OpenSpec.upto fnExactIsFormulaSpec)

/-- 'laws.FnExactFuncOfFormula', WHERE WHAT IT READS IS OF BULK AT MOST 1048576: true; the input reads as it did. -/
def fnExactFuncOfFormulaUptoRow : OpenClaim := { program := "ytleighihfgabkaadoor", sum := "a46d44549d73d8dd97d2480a8c20435a79fd2102c96e5de2065589a70b8c24f9", func := "loop.example/g01323/laws.FnExactFuncOfFormula", spec := "fnExactFuncOfFormula", inPlace := ["internal/bytealg.IndexByteString", "internal/bytealg.IndexString"], unfollowed := true, recurses := true, named := ["loop.example/g01323/impl.errWrongText", "internal/bytealg.MaxLen"], ifaces := true, apart := false, laid := [("loop.example/g01323/impl.errWrongText", laid_loop_example_g01323_impl_errWrongText)], narrowed := true }
def FnExactFuncOfFormulaUptoSaid : Prop := fnExactFuncOfFormulaUptoRow.holds Tryd.pinned (OpenSpec.upto fnExactFuncOfFormulaSpec)

/-- 'laws.FnExactSizeOfFormula', WHERE WHAT IT READS IS OF BULK AT MOST 1048576: true; the input reads as it did. -/
def fnExactSizeOfFormulaUptoRow : OpenClaim := { program := "ytleighihfgabkaadoor", sum := "a46d44549d73d8dd97d2480a8c20435a79fd2102c96e5de2065589a70b8c24f9", func := "loop.example/g01323/laws.FnExactSizeOfFormula", spec := "fnExactSizeOfFormula", inPlace := ["internal/bytealg.IndexByteString"], unfollowed := true, recurses := true, named := ["loop.example/g01323/impl.errWrongText"], ifaces := true, apart := false, laid := [("loop.example/g01323/impl.errWrongText", laid_loop_example_g01323_impl_errWrongText)], narrowed := true }
def FnExactSizeOfFormulaUptoSaid : Prop := fnExactSizeOfFormulaUptoRow.holds Tryd.pinned (OpenSpec.upto fnExactSizeOfFormulaSpec)

/-- 'laws.FnExactDepthOfFormula', WHERE WHAT IT READS IS OF BULK AT MOST 1048576: true; the input reads as it did. -/
def fnExactDepthOfFormulaUptoRow : OpenClaim := { program := "ytleighihfgabkaadoor", sum := "a46d44549d73d8dd97d2480a8c20435a79fd2102c96e5de2065589a70b8c24f9", func := "loop.example/g01323/laws.FnExactDepthOfFormula", spec := "fnExactDepthOfFormula", inPlace := ["internal/bytealg.IndexByteString"], unfollowed := true, recurses := true, named := ["loop.example/g01323/impl.errWrongText"], ifaces := true, apart := false, laid := [("loop.example/g01323/impl.errWrongText", laid_loop_example_g01323_impl_errWrongText)], narrowed := true }
def FnExactDepthOfFormulaUptoSaid : Prop := fnExactDepthOfFormulaUptoRow.holds Tryd.pinned (OpenSpec.upto fnExactDepthOfFormulaSpec)

/-- 'laws.FnExactVariablesOfFormula', WHERE WHAT IT READS IS OF BULK AT MOST 1048576: true; the input reads as it did. -/
def fnExactVariablesOfFormulaUptoRow : OpenClaim := { program := "ytleighihfgabkaadoor", sum := "a46d44549d73d8dd97d2480a8c20435a79fd2102c96e5de2065589a70b8c24f9", func := "loop.example/g01323/laws.FnExactVariablesOfFormula", spec := "fnExactVariablesOfFormula", inPlace := ["internal/bytealg.IndexByteString"], unfollowed := true, recurses := true, named := ["loop.example/g01323/impl.errWrongText"], ifaces := true, apart := false, laid := [("loop.example/g01323/impl.errWrongText", laid_loop_example_g01323_impl_errWrongText)], narrowed := true }
def FnExactVariablesOfFormulaUptoSaid : Prop := fnExactVariablesOfFormulaUptoRow.holds Tryd.pinned (OpenSpec.upto fnExactVariablesOfFormulaSpec)

/-- 'laws.FnExactDualFormula', WHERE WHAT IT READS IS OF BULK AT MOST 1048576: true; the input reads as it did. -/
def fnExactDualFormulaUptoRow : OpenClaim := { program := "ytleighihfgabkaadoor", sum := "a46d44549d73d8dd97d2480a8c20435a79fd2102c96e5de2065589a70b8c24f9", func := "loop.example/g01323/laws.FnExactDualFormula", spec := "fnExactDualFormula", inPlace := ["internal/bytealg.IndexByteString"], unfollowed := true, recurses := true, named := ["loop.example/g01323/impl.errWrongText"], ifaces := true, apart := false, laid := [("loop.example/g01323/impl.errWrongText", laid_loop_example_g01323_impl_errWrongText)], narrowed := true }
def FnExactDualFormulaUptoSaid : Prop := fnExactDualFormulaUptoRow.holds Tryd.pinned (OpenSpec.upto fnExactDualFormulaSpec)

/-- 'laws.FnExactPutFormulas', WHERE WHAT IT READS IS OF BULK AT MOST 1048576: true; the input reads as it did. -/
def fnExactPutFormulasUptoRow : OpenClaim := { program := "ytleighihfgabkaadoor", sum := "a46d44549d73d8dd97d2480a8c20435a79fd2102c96e5de2065589a70b8c24f9", func := "loop.example/g01323/laws.FnExactPutFormulas", spec := "fnExactPutFormulas", inPlace := ["internal/bytealg.IndexByteString", "internal/abi.NoEscape"], unfollowed := true, recurses := true, named := ["loop.example/g01323/impl.errWrongText"], ifaces := true, apart := false, laid := [("loop.example/g01323/impl.errWrongText", laid_loop_example_g01323_impl_errWrongText)], narrowed := true }
def FnExactPutFormulasUptoSaid : Prop := fnExactPutFormulasUptoRow.holds Tryd.pinned (OpenSpec.upto fnExactPutFormulasSpec)

/-- 'laws.FnExactPartsOfFormula', WHERE WHAT IT READS IS OF BULK AT MOST 1048576: true; the input reads as it did. -/
def fnExactPartsOfFormulaUptoRow : OpenClaim := { program := "ytleighihfgabkaadoor", sum := "a46d44549d73d8dd97d2480a8c20435a79fd2102c96e5de2065589a70b8c24f9", func := "loop.example/g01323/laws.FnExactPartsOfFormula", spec := "fnExactPartsOfFormula", inPlace := ["internal/bytealg.IndexByteString"], unfollowed := true, recurses := true, named := ["loop.example/g01323/impl.errWrongText"], ifaces := true, apart := false, laid := [("loop.example/g01323/impl.errWrongText", laid_loop_example_g01323_impl_errWrongText)], narrowed := true }
def FnExactPartsOfFormulaUptoSaid : Prop := fnExactPartsOfFormulaUptoRow.holds Tryd.pinned (OpenSpec.upto fnExactPartsOfFormulaSpec)

/-- 'laws.FnExactLeastSizeOf', WHERE WHAT IT READS IS OF BULK AT MOST 1048576: true; the input reads as it did. -/
def fnExactLeastSizeOfUptoRow : OpenClaim := { program := "ytleighihfgabkaadoor", sum := "a46d44549d73d8dd97d2480a8c20435a79fd2102c96e5de2065589a70b8c24f9", func := "loop.example/g01323/laws.FnExactLeastSizeOf", spec := "fnExactLeastSizeOf", inPlace := ["internal/bytealg.IndexByteString"], unfollowed := true, recurses := true, named := ["loop.example/g01323/impl.errWrongText"], ifaces := true, apart := false, laid := [("loop.example/g01323/impl.errWrongText", laid_loop_example_g01323_impl_errWrongText)], narrowed := true }
def FnExactLeastSizeOfUptoSaid : Prop := fnExactLeastSizeOfUptoRow.holds Tryd.pinned (OpenSpec.upto fnExactLeastSizeOfSpec)

/-- 'laws.FnExactSizeNumbers', WHERE WHAT IT READS IS OF BULK AT MOST 1048576: true; the input reads as it did. -/
def fnExactSizeNumbersUptoRow : OpenClaim := { program := "ytleighihfgabkaadoor", sum := "a46d44549d73d8dd97d2480a8c20435a79fd2102c96e5de2065589a70b8c24f9", func := "loop.example/g01323/laws.FnExactSizeNumbers", spec := "fnExactSizeNumbers", inPlace := ["internal/bytealg.IndexByteString"], unfollowed := true, recurses := true, named := ["loop.example/g01323/impl.errWrongText"], ifaces := true, apart := false, laid := [("loop.example/g01323/impl.errWrongText", laid_loop_example_g01323_impl_errWrongText)], narrowed := true }
def FnExactSizeNumbersUptoSaid : Prop := fnExactSizeNumbersUptoRow.holds Tryd.pinned (OpenSpec.upto fnExactSizeNumbersSpec)

end Rows
end Go.Proofs.YtleighihfgabkaaDoor
