/-
  NARROWER THAN 'FOR EVERY INPUT', by the rows' own cells (each row's printed sentence says how): FnFormulas: ifaces, laid · FnSizes: ifaces, laid.
  DERIVED. THE GIVEN ROWS OF THIS SEAT. 2 by the template 'for every input the law returns true; each argument reads behind the call as it read before'; 0 by the template 'total and deterministic' (their statements: YtleighihfgabkaaGreatDoorTotals.lean).
  GIVEN WITH THE SEED: the statements are not yours to turn. If you find one false, say at which input.
  Laid BY PROGRAM, IN A SANDBOX (cutbox-rows.mjs): the forced cells as the released guide's own fill.sh prints them over the translation 1433b7b8120da174… (all of the seat's roots in one cut). By AI agents, Wed Nov 11 2026. No macro, syntax, notation, axiom, sorry.
-/
import Derived.Test.YtleighihfgabkaaGreatDoorChecked
import GoSem.Claim
import GoSem.ClaimJoined
import GoSem.ClaimMapViews
import Derived.JoinedTies
import Derived.KernelRfl
namespace Go.Proofs.YtleighihfgabkaaGreatDoor
/- THE CELL 'sum', in the pinned program and in every row, IS THE sha256 OF THE DUMP (.gsa) THAT YtleighihfgabkaaGreatDoorProg.lean LOADS. Nothing in Lean hashes anything: it is a label: what it is worth is what the hold of that sum in a sandbox is worth. -/
noncomputable def Tryz.pinned : Pinned := { name := "ytleighihfgabkaagreatdoor", sum := "1433b7b8120da1742a6ba4d3e087e7d2b3a71ae2f9e1f55f6a3a040b52e08388", checked := Tryz.checked }
namespace Rows
def none {H : Type} : Left H := { results := [], args := [] }

/- WHAT THE LISTED PACKAGE-LEVEL VARIABLES READ AS WHEN THE CALL BEGINS. Each datum BY PROGRAM (the guide's laid-datum.mjs) off the statement by which the dump's own 'gosem.cut.vars' lays the variable. In a bare row this is a premise. The card (YtleighihfgabkaaGreatDoorCards.lean) ties it to the program's text. -/
def laid_loop_example_g01323_impl_errWrongText {H : Type} : DataW H := .iface "*errors.errorString" (.ptr (.agg [.lit (.string [116, 104, 101, 32, 116, 101, 120, 116, 32, 105, 115, 32, 110, 111, 116, 32, 97, 32, 102, 111, 114, 109, 117, 108, 97, 44, 32, 111, 114, 32, 110, 111, 116, 32, 97, 32, 99, 104, 111, 105, 99, 101, 32, 111, 102, 32, 103, 97, 116, 101, 115])]))

/-- 'laws.FnFormulas': WHATEVER THE INPUT: true; the input reads as it did. -/
def fnFormulasSpec : ChangeSpec := { name := "fnFormulas", vars := ["loop.example/g01323/impl.errWrongText"], fn := fun _ => fun
  | [d, g1] => { results := [.lit (.bool true)], args := [d], vars := [g1] }
  | _ => none }
def fnFormulasRow : OpenClaim := { program := "ytleighihfgabkaagreatdoor", sum := "1433b7b8120da1742a6ba4d3e087e7d2b3a71ae2f9e1f55f6a3a040b52e08388", func := "loop.example/g01323/laws.FnFormulas", spec := "fnFormulas", inPlace := ["internal/bytealg.IndexByteString", "internal/bytealg.IndexString", "internal/abi.NoEscape"], unfollowed := true, recurses := true, named := ["loop.example/g01323/impl.errWrongText", "internal/bytealg.MaxLen"], ifaces := true, apart := false, laid := [("loop.example/g01323/impl.errWrongText", laid_loop_example_g01323_impl_errWrongText)] }
def FnFormulasSaid : Prop := fnFormulasRow.holds Tryz.pinned (OpenSpec.ofChange fnFormulasSpec)

/-- ITS FALSE NEIGHBOUR: 'it returns false'. Refute it at one input. -/
def fnFormulasWrong : ChangeSpec := { name := "fnFormulas", vars := ["loop.example/g01323/impl.errWrongText"], fn := fun _ => fun
  | [d, g1] => { results := [.lit (.bool false)], args := [d], vars := [g1] }
  | _ => none }
def FnFormulasWrongFalsely : Prop := fnFormulasRow.holds Tryz.pinned (OpenSpec.ofChange fnFormulasWrong)

/-- 'laws.FnSizes': WHATEVER THE INPUT: true; the input reads as it did. -/
def fnSizesSpec : ChangeSpec := { name := "fnSizes", vars := ["loop.example/g01323/impl.errWrongText"], fn := fun _ => fun
  | [d, g1] => { results := [.lit (.bool true)], args := [d], vars := [g1] }
  | _ => none }
def fnSizesRow : OpenClaim := { program := "ytleighihfgabkaagreatdoor", sum := "1433b7b8120da1742a6ba4d3e087e7d2b3a71ae2f9e1f55f6a3a040b52e08388", func := "loop.example/g01323/laws.FnSizes", spec := "fnSizes", inPlace := ["internal/bytealg.IndexByteString", "internal/bytealg.IndexString"], unfollowed := true, recurses := true, named := ["loop.example/g01323/impl.errWrongText", "internal/bytealg.MaxLen"], ifaces := true, apart := false, laid := [("loop.example/g01323/impl.errWrongText", laid_loop_example_g01323_impl_errWrongText)] }
def FnSizesSaid : Prop := fnSizesRow.holds Tryz.pinned (OpenSpec.ofChange fnSizesSpec)

/-- ITS FALSE NEIGHBOUR: 'it returns false'. Refute it at one input. -/
def fnSizesWrong : ChangeSpec := { name := "fnSizes", vars := ["loop.example/g01323/impl.errWrongText"], fn := fun _ => fun
  | [d, g1] => { results := [.lit (.bool false)], args := [d], vars := [g1] }
  | _ => none }
def FnSizesWrongFalsely : Prop := fnSizesRow.holds Tryz.pinned (OpenSpec.ofChange fnSizesWrong)

/- THE SECOND FORM. 'bulk': how many values and letters a reading holds, each counted each time it is reached (what is shared counts as often as it is met; a slice's spare places count too). A statement '..UptoSaid' is the law's where the arguments, and the package variables that the reading takes, are together of bulk at most 1048576: NARROWER than '..Said'. Prove '..Said' where nothing that the law and all that it calls make is longer than what came in: it says more and counts as full. Else prove '..UptoSaid'. A law counts once. -/
mutual
def uptoBulk {H : Type} : DataW H → Nat
  | .lit (.string bytes) => bytes.length + 1
  | .lit _ => 1
  | .nil => 1
  | .ptr d => uptoBulk d + 1
  | .slice elems spare => uptoBulkAll elems + uptoBulkAll spare + 1
  | .agg parts => uptoBulkAll parts + 1
  | .iface _ d => uptoBulk d + 1
  | .map entries => uptoBulkEntries entries + 1
  | .held _ => 1
def uptoBulkAll {H : Type} : List (DataW H) → Nat
  | [] => 0
  | d :: r => uptoBulk d + uptoBulkAll r
def uptoBulkEntries {H : Type} : List (Lit × DataW H) → Nat
  | [] => 0
  | x :: r => uptoBulkEntry x + uptoBulkEntries r
def uptoBulkEntry {H : Type} : Lit × DataW H → Nat
  | (.string bytes, d) => bytes.length + uptoBulk d + 1
  | (_, d) => uptoBulk d + 1
 end
def uptoSmall : (H : Type) → List (DataW H) → Bool := fun _ ds => decide (uptoBulkAll ds ≤ 1048576)
def OpenSpec.upto (s : _root_.Go.ChangeSpec) : _root_.Go.OpenSpec := { _root_.Go.OpenSpec.ofChange s with cond := some uptoSmall }

/-- 'laws.FnFormulas', WHERE WHAT IT READS IS OF BULK AT MOST 1048576: true; the input reads as it did. -/
def fnFormulasUptoRow : OpenClaim := { program := "ytleighihfgabkaagreatdoor", sum := "1433b7b8120da1742a6ba4d3e087e7d2b3a71ae2f9e1f55f6a3a040b52e08388", func := "loop.example/g01323/laws.FnFormulas", spec := "fnFormulas", inPlace := ["internal/bytealg.IndexByteString", "internal/bytealg.IndexString", "internal/abi.NoEscape"], unfollowed := true, recurses := true, named := ["loop.example/g01323/impl.errWrongText", "internal/bytealg.MaxLen"], ifaces := true, apart := false, laid := [("loop.example/g01323/impl.errWrongText", laid_loop_example_g01323_impl_errWrongText)], narrowed := true }
def FnFormulasUptoSaid : Prop := fnFormulasUptoRow.holds Tryz.pinned (OpenSpec.upto fnFormulasSpec)

/-- 'laws.FnSizes', WHERE WHAT IT READS IS OF BULK AT MOST 1048576: true; the input reads as it did. -/
def fnSizesUptoRow : OpenClaim := { program := "ytleighihfgabkaagreatdoor", sum := "1433b7b8120da1742a6ba4d3e087e7d2b3a71ae2f9e1f55f6a3a040b52e08388", func := "loop.example/g01323/laws.FnSizes", spec := "fnSizes", inPlace := ["internal/bytealg.IndexByteString", "internal/bytealg.IndexString"], unfollowed := true, recurses := true, named := ["loop.example/g01323/impl.errWrongText", "internal/bytealg.MaxLen"], ifaces := true, apart := false, laid := [("loop.example/g01323/impl.errWrongText", laid_loop_example_g01323_impl_errWrongText)], narrowed := true }
def FnSizesUptoSaid : Prop := fnSizesUptoRow.holds Tryz.pinned (OpenSpec.upto fnSizesSpec)

end Rows
end Go.Proofs.YtleighihfgabkaaGreatDoor
