/-
  No cell of these rows narrows 'for every input' (looked for: loops, veiled, ifaces, maps, wideKeys, modest, calm, conditions, laid).
  DERIVED. THE GIVEN ROWS OF THIS SEAT. 11 by the template 'for every input the law returns true; each argument reads behind the call as it read before'; 0 by the template 'total and deterministic' (their statements: YtkemegiofiemfaaTotals.lean).
  GIVEN WITH THE SEED: the statements are not yours to turn. If you find one false, say at which input.
  Laid BY PROGRAM, IN A SANDBOX (cutbox-rows.mjs): the forced cells as the released guide's own fill.sh prints them over the translation 1c73920f42cc366b… (all of the seat's roots in one cut). By AI agents, Wed Nov 11 2026. No macro, syntax, notation, axiom, sorry.
-/
import Derived.Test.YtkemegiofiemfaaChecked
import GoSem.Claim
import GoSem.ClaimJoined
import GoSem.ClaimMapViews
import Derived.JoinedTies
import Derived.KernelRfl
namespace Go.Proofs.Ytkemegiofiemfaa
/- THE CELL 'sum', in the pinned program and in every row, IS THE sha256 OF THE DUMP (.gsa) THAT YtkemegiofiemfaaProg.lean LOADS. Nothing in Lean hashes anything: it is a label: what it is worth is what the hold of that sum in a sandbox is worth. -/
noncomputable def Try.pinned : Pinned := { name := "ytkemegiofiemfaa", sum := "1c73920f42cc366bb0abb395f04843d2f39983ab8f5dd600939eed728238cdef", checked := Try.checked }
namespace Rows
def none {H : Type} : Left H := { results := [], args := [] }

/-- 'laws.FnClasses': WHATEVER THE INPUT: true; the input reads as it did. -/
def fnClassesSpec : ChangeSpec := { name := "fnClasses", fn := fun _ => fun
  | [d] => { results := [.lit (.bool true)], args := [d] }
  | _ => none }
def fnClassesRow : OpenClaim := { program := "ytkemegiofiemfaa", sum := "1c73920f42cc366bb0abb395f04843d2f39983ab8f5dd600939eed728238cdef", func := "loop.example/g01323/laws.FnClasses", spec := "fnClasses", unfollowed := true, recurses := true, plainKeys := false, apart := false }
def FnClassesSaid : Prop := fnClassesRow.holds Try.pinned (OpenSpec.ofChange fnClassesSpec)

/-- ITS FALSE NEIGHBOUR: 'it returns false'. Refute it at one input. -/
def fnClassesWrong : ChangeSpec := { name := "fnClasses", fn := fun _ => fun
  | [d] => { results := [.lit (.bool false)], args := [d] }
  | _ => none }
def FnClassesWrongFalsely : Prop := fnClassesRow.holds Try.pinned (OpenSpec.ofChange fnClassesWrong)

/-- 'laws.FnExactClassRow': WHATEVER THE INPUT: true; the input reads as it did. -/
def fnExactClassRowSpec : ChangeSpec := { name := "fnExactClassRow", fn := fun _ => fun
  | [d] => { results := [.lit (.bool true)], args := [d] }
  | _ => none }
def fnExactClassRowRow : OpenClaim := { program := "ytkemegiofiemfaa", sum := "1c73920f42cc366bb0abb395f04843d2f39983ab8f5dd600939eed728238cdef", func := "loop.example/g01323/laws.FnExactClassRow", spec := "fnExactClassRow", unfollowed := true, recurses := true, plainKeys := false, apart := false }
def FnExactClassRowSaid : Prop := fnExactClassRowRow.holds Try.pinned (OpenSpec.ofChange fnExactClassRowSpec)

/-- ITS FALSE NEIGHBOUR: 'it returns false'. Refute it at one input. -/
def fnExactClassRowWrong : ChangeSpec := { name := "fnExactClassRow", fn := fun _ => fun
  | [d] => { results := [.lit (.bool false)], args := [d] }
  | _ => none }
def FnExactClassRowWrongFalsely : Prop := fnExactClassRowRow.holds Try.pinned (OpenSpec.ofChange fnExactClassRowWrong)

/-- 'laws.FnExactIsInClass': WHATEVER THE INPUT: true; the input reads as it did. -/
def fnExactIsInClassSpec : ChangeSpec := { name := "fnExactIsInClass", fn := fun _ => fun
  | [d1, d2] => { results := [.lit (.bool true)], args := [d1, d2] }
  | _ => none }
def fnExactIsInClassRow : OpenClaim := { program := "ytkemegiofiemfaa", sum := "1c73920f42cc366bb0abb395f04843d2f39983ab8f5dd600939eed728238cdef", func := "loop.example/g01323/laws.FnExactIsInClass", spec := "fnExactIsInClass", unfollowed := true, recurses := true, plainKeys := false, apart := false }
def FnExactIsInClassSaid : Prop := fnExactIsInClassRow.holds Try.pinned (OpenSpec.ofChange fnExactIsInClassSpec)

/-- ITS FALSE NEIGHBOUR: 'it returns false'. Refute it at one input. -/
def fnExactIsInClassWrong : ChangeSpec := { name := "fnExactIsInClass", fn := fun _ => fun
  | [d1, d2] => { results := [.lit (.bool false)], args := [d1, d2] }
  | _ => none }
def FnExactIsInClassWrongFalsely : Prop := fnExactIsInClassRow.holds Try.pinned (OpenSpec.ofChange fnExactIsInClassWrong)

/-- 'laws.FnExactCountInClass': WHATEVER THE INPUT: true; the input reads as it did. -/
def fnExactCountInClassSpec : ChangeSpec := { name := "fnExactCountInClass", fn := fun _ => fun
  | [d1, d2] => { results := [.lit (.bool true)], args := [d1, d2] }
  | _ => none }
def fnExactCountInClassRow : OpenClaim := { program := "ytkemegiofiemfaa", sum := "1c73920f42cc366bb0abb395f04843d2f39983ab8f5dd600939eed728238cdef", func := "loop.example/g01323/laws.FnExactCountInClass", spec := "fnExactCountInClass", unfollowed := true, recurses := true, plainKeys := false, apart := false }
def FnExactCountInClassSaid : Prop := fnExactCountInClassRow.holds Try.pinned (OpenSpec.ofChange fnExactCountInClassSpec)

/-- ITS FALSE NEIGHBOUR: 'it returns false'. Refute it at one input. -/
def fnExactCountInClassWrong : ChangeSpec := { name := "fnExactCountInClass", fn := fun _ => fun
  | [d1, d2] => { results := [.lit (.bool false)], args := [d1, d2] }
  | _ => none }
def FnExactCountInClassWrongFalsely : Prop := fnExactCountInClassRow.holds Try.pinned (OpenSpec.ofChange fnExactCountInClassWrong)

/-- 'laws.FnExactClassesOf': WHATEVER THE INPUT: true; the input reads as it did. -/
def fnExactClassesOfSpec : ChangeSpec := { name := "fnExactClassesOf", fn := fun _ => fun
  | [d] => { results := [.lit (.bool true)], args := [d] }
  | _ => none }
def fnExactClassesOfRow : OpenClaim := { program := "ytkemegiofiemfaa", sum := "1c73920f42cc366bb0abb395f04843d2f39983ab8f5dd600939eed728238cdef", func := "loop.example/g01323/laws.FnExactClassesOf", spec := "fnExactClassesOf", unfollowed := true, recurses := true, plainKeys := false, apart := false }
def FnExactClassesOfSaid : Prop := fnExactClassesOfRow.holds Try.pinned (OpenSpec.ofChange fnExactClassesOfSpec)

/-- ITS FALSE NEIGHBOUR: 'it returns false'. Refute it at one input. -/
def fnExactClassesOfWrong : ChangeSpec := { name := "fnExactClassesOf", fn := fun _ => fun
  | [d] => { results := [.lit (.bool false)], args := [d] }
  | _ => none }
def FnExactClassesOfWrongFalsely : Prop := fnExactClassesOfRow.holds Try.pinned (OpenSpec.ofChange fnExactClassesOfWrong)

/-- 'laws.FnExactIsComplete': WHATEVER THE INPUT: true; the input reads as it did. -/
def fnExactIsCompleteSpec : ChangeSpec := { name := "fnExactIsComplete", fn := fun _ => fun
  | [d] => { results := [.lit (.bool true)], args := [d] }
  | _ => none }
def fnExactIsCompleteRow : OpenClaim := { program := "ytkemegiofiemfaa", sum := "1c73920f42cc366bb0abb395f04843d2f39983ab8f5dd600939eed728238cdef", func := "loop.example/g01323/laws.FnExactIsComplete", spec := "fnExactIsComplete", unfollowed := true, recurses := true, plainKeys := false, apart := false }
def FnExactIsCompleteSaid : Prop := fnExactIsCompleteRow.holds Try.pinned (OpenSpec.ofChange fnExactIsCompleteSpec)

/-- ITS FALSE NEIGHBOUR: 'it returns false'. Refute it at one input. -/
def fnExactIsCompleteWrong : ChangeSpec := { name := "fnExactIsComplete", fn := fun _ => fun
  | [d] => { results := [.lit (.bool false)], args := [d] }
  | _ => none }
def FnExactIsCompleteWrongFalsely : Prop := fnExactIsCompleteRow.holds Try.pinned (OpenSpec.ofChange fnExactIsCompleteWrong)

/-- 'laws.FnExactIsBase': WHATEVER THE INPUT: true; the input reads as it did. -/
def fnExactIsBaseSpec : ChangeSpec := { name := "fnExactIsBase", fn := fun _ => fun
  | [d] => { results := [.lit (.bool true)], args := [d] }
  | _ => none }
def fnExactIsBaseRow : OpenClaim := { program := "ytkemegiofiemfaa", sum := "1c73920f42cc366bb0abb395f04843d2f39983ab8f5dd600939eed728238cdef", func := "loop.example/g01323/laws.FnExactIsBase", spec := "fnExactIsBase", unfollowed := true, recurses := true, plainKeys := false, apart := false }
def FnExactIsBaseSaid : Prop := fnExactIsBaseRow.holds Try.pinned (OpenSpec.ofChange fnExactIsBaseSpec)

/-- ITS FALSE NEIGHBOUR: 'it returns false'. Refute it at one input. -/
def fnExactIsBaseWrong : ChangeSpec := { name := "fnExactIsBase", fn := fun _ => fun
  | [d] => { results := [.lit (.bool false)], args := [d] }
  | _ => none }
def FnExactIsBaseWrongFalsely : Prop := fnExactIsBaseRow.holds Try.pinned (OpenSpec.ofChange fnExactIsBaseWrong)

/-- 'laws.FnExactBasesOf': WHATEVER THE INPUT: true; the input reads as it did. -/
def fnExactBasesOfSpec : ChangeSpec := { name := "fnExactBasesOf", fn := fun _ => fun
  | [d] => { results := [.lit (.bool true)], args := [d] }
  | _ => none }
def fnExactBasesOfRow : OpenClaim := { program := "ytkemegiofiemfaa", sum := "1c73920f42cc366bb0abb395f04843d2f39983ab8f5dd600939eed728238cdef", func := "loop.example/g01323/laws.FnExactBasesOf", spec := "fnExactBasesOf", unfollowed := true, recurses := true, plainKeys := false, apart := false }
def FnExactBasesOfSaid : Prop := fnExactBasesOfRow.holds Try.pinned (OpenSpec.ofChange fnExactBasesOfSpec)

/-- ITS FALSE NEIGHBOUR: 'it returns false'. Refute it at one input. -/
def fnExactBasesOfWrong : ChangeSpec := { name := "fnExactBasesOf", fn := fun _ => fun
  | [d] => { results := [.lit (.bool false)], args := [d] }
  | _ => none }
def FnExactBasesOfWrongFalsely : Prop := fnExactBasesOfRow.holds Try.pinned (OpenSpec.ofChange fnExactBasesOfWrong)

/-- 'laws.FnExactIsSheffer': WHATEVER THE INPUT: true; the input reads as it did. -/
def fnExactIsShefferSpec : ChangeSpec := { name := "fnExactIsSheffer", fn := fun _ => fun
  | [d] => { results := [.lit (.bool true)], args := [d] }
  | _ => none }
def fnExactIsShefferRow : OpenClaim := { program := "ytkemegiofiemfaa", sum := "1c73920f42cc366bb0abb395f04843d2f39983ab8f5dd600939eed728238cdef", func := "loop.example/g01323/laws.FnExactIsSheffer", spec := "fnExactIsSheffer", unfollowed := true, recurses := true, plainKeys := false, apart := false }
def FnExactIsShefferSaid : Prop := fnExactIsShefferRow.holds Try.pinned (OpenSpec.ofChange fnExactIsShefferSpec)

/-- ITS FALSE NEIGHBOUR: 'it returns false'. Refute it at one input. -/
def fnExactIsShefferWrong : ChangeSpec := { name := "fnExactIsSheffer", fn := fun _ => fun
  | [d] => { results := [.lit (.bool false)], args := [d] }
  | _ => none }
def FnExactIsShefferWrongFalsely : Prop := fnExactIsShefferRow.holds Try.pinned (OpenSpec.ofChange fnExactIsShefferWrong)

/-- 'laws.FnExactShefferFunctions': WHATEVER THE INPUT: true; the input reads as it did. -/
def fnExactShefferFunctionsSpec : ChangeSpec := { name := "fnExactShefferFunctions", fn := fun _ => fun
  | [d] => { results := [.lit (.bool true)], args := [d] }
  | _ => none }
def fnExactShefferFunctionsRow : OpenClaim := { program := "ytkemegiofiemfaa", sum := "1c73920f42cc366bb0abb395f04843d2f39983ab8f5dd600939eed728238cdef", func := "loop.example/g01323/laws.FnExactShefferFunctions", spec := "fnExactShefferFunctions", unfollowed := true, recurses := true, plainKeys := false, apart := false }
def FnExactShefferFunctionsSaid : Prop := fnExactShefferFunctionsRow.holds Try.pinned (OpenSpec.ofChange fnExactShefferFunctionsSpec)

/-- ITS FALSE NEIGHBOUR: 'it returns false'. Refute it at one input. -/
def fnExactShefferFunctionsWrong : ChangeSpec := { name := "fnExactShefferFunctions", fn := fun _ => fun
  | [d] => { results := [.lit (.bool false)], args := [d] }
  | _ => none }
def FnExactShefferFunctionsWrongFalsely : Prop := fnExactShefferFunctionsRow.holds Try.pinned (OpenSpec.ofChange fnExactShefferFunctionsWrong)

/-- 'laws.FnExactCountSheffer': WHATEVER THE INPUT: true; the input reads as it did. -/
def fnExactCountShefferSpec : ChangeSpec := { name := "fnExactCountSheffer", fn := fun _ => fun
  | [d] => { results := [.lit (.bool true)], args := [d] }
  | _ => none }
def fnExactCountShefferRow : OpenClaim := { program := "ytkemegiofiemfaa", sum := "1c73920f42cc366bb0abb395f04843d2f39983ab8f5dd600939eed728238cdef", func := "loop.example/g01323/laws.FnExactCountSheffer", spec := "fnExactCountSheffer", unfollowed := true, recurses := true, plainKeys := false, apart := false }
def FnExactCountShefferSaid : Prop := fnExactCountShefferRow.holds Try.pinned (OpenSpec.ofChange fnExactCountShefferSpec)

/-- ITS FALSE NEIGHBOUR: 'it returns false'. Refute it at one input. -/
def fnExactCountShefferWrong : ChangeSpec := { name := "fnExactCountSheffer", fn := fun _ => fun
  | [d] => { results := [.lit (.bool false)], args := [d] }
  | _ => none }
def FnExactCountShefferWrongFalsely : Prop := fnExactCountShefferRow.holds Try.pinned (OpenSpec.ofChange fnExactCountShefferWrong)

/- THE SECOND FORM. 'bulk': how many values and letters a reading holds, each counted each time it is reached (what is shared counts as often as it is met; a slice's spare places count too). A statement '..UptoSaid' is the law's where the arguments, and the package variables that the reading takes, are together of bulk at most 1048576: NARROWER than '..Said'. Prove '..Said' where nothing that the law and all that it calls make is longer than what came in: it says more and counts as full. Else prove '..UptoSaid'. A law counts once. -/
mutual
def uptoBulk {H : Type} : DataW H → Nat
  | .lit (.string bytes) => bytes.length + 1
  | .lit _ => 1
  | .nil => 1
  | .ptr d => uptoBulk d + 1
  | .slice elems spare => uptoBulkAll elems + uptoBulkAll spare + 1
  | .agg parts => uptoBulkAll parts + 1
  | .iface _ d => uptoBulk d + 1
  | .map entries => uptoBulkEntries entries + 1
  | .held _ => 1
def uptoBulkAll {H : Type} : List (DataW H) → Nat
  | [] => 0
  | d :: r => uptoBulk d + uptoBulkAll r
def uptoBulkEntries {H : Type} : List (Lit × DataW H) → Nat
  | [] => 0
  | x :: r => uptoBulkEntry x + uptoBulkEntries r
def uptoBulkEntry {H : Type} : Lit × DataW H → Nat
  | (.string bytes, d) => bytes.length + uptoBulk d + 1
  | (_, d) => uptoBulk d + 1
 end
def uptoSmall : (H : Type) → List (DataW H) → Bool := fun _ ds => decide (uptoBulkAll ds ≤ 1048576)
def OpenSpec.upto (s : _root_.Go.ChangeSpec) : _root_.Go.OpenSpec := { _root_.Go.OpenSpec.ofChange s with cond := some uptoSmall }

/-- 'laws.FnClasses', WHERE WHAT IT READS IS OF BULK AT MOST 1048576: true; the input reads as it did. -/
def fnClassesUptoRow : OpenClaim := { program := "ytkemegiofiemfaa", sum := "1c73920f42cc366bb0abb395f04843d2f39983ab8f5dd600939eed728238cdef", func := "loop.example/g01323/laws.FnClasses", spec := "fnClasses", unfollowed := true, recurses := true, plainKeys := false, apart := false, narrowed := true }
def FnClassesUptoSaid : Prop := fnClassesUptoRow.holds Try.pinned (OpenSpec.upto fnClassesSpec)

/-- 'laws.FnExactClassRow', WHERE WHAT IT READS IS OF BULK AT MOST 1048576: true; the input reads as it did. -/
def fnExactClassRowUptoRow : OpenClaim := { program := "ytkemegiofiemfaa", sum := "1c73920f42cc366bb0abb395f04843d2f39983ab8f5dd600939eed728238cdef", func := "loop.example/g01323/laws.FnExactClassRow", spec := "fnExactClassRow", unfollowed := true, recurses := true, plainKeys := false, apart := false, narrowed := true }
def FnExactClassRowUptoSaid : Prop := fnExactClassRowUptoRow.holds Try.pinned (OpenSpec.upto fnExactClassRowSpec)

/-- 'laws.FnExactIsInClass', WHERE WHAT IT READS IS OF BULK AT MOST 1048576: true; the input reads as it did. -/
def fnExactIsInClassUptoRow : OpenClaim := { program := "ytkemegiofiemfaa", sum := "1c73920f42cc366bb0abb395f04843d2f39983ab8f5dd600939eed728238cdef", func := "loop.example/g01323/laws.FnExactIsInClass", spec := "fnExactIsInClass", unfollowed := true, recurses := true, plainKeys := false, apart := false, narrowed := true }
def FnExactIsInClassUptoSaid : Prop := fnExactIsInClassUptoRow.holds Try.pinned (OpenSpec.upto fnExactIsInClassSpec)

/-- 'laws.FnExactCountInClass', WHERE WHAT IT READS IS OF BULK AT MOST 1048576: true; the input reads as it did. -/
def fnExactCountInClassUptoRow : OpenClaim := { program := "ytkemegiofiemfaa", sum := "1c73920f42cc366bb0abb395f04843d2f39983ab8f5dd600939eed728238cdef", func := "loop.example/g01323/laws.FnExactCountInClass", spec := "fnExactCountInClass", unfollowed := true, recurses := true, plainKeys := false, apart := false, narrowed := true }
def FnExactCountInClassUptoSaid : Prop := fnExactCountInClassUptoRow.holds Try.pinned (OpenSpec.upto fnExactCountInClassSpec)

/-- 'laws.FnExactClassesOf', WHERE WHAT IT READS IS OF BULK AT MOST 1048576: true; the input reads as it did. -/
def fnExactClassesOfUptoRow : OpenClaim := { program := "ytkemegiofiemfaa", sum := "1c73920f42cc366bb0abb395f04843d2f39983ab8f5dd600939eed728238cdef", func := "loop.example/g01323/laws.FnExactClassesOf", spec := "fnExactClassesOf", unfollowed := true, recurses := true, plainKeys := false, apart := false, narrowed := true }
def FnExactClassesOfUptoSaid : Prop := fnExactClassesOfUptoRow.holds Try.pinned (OpenSpec.upto fnExactClassesOfSpec)

/-- 'laws.FnExactIsComplete', WHERE WHAT IT READS IS OF BULK AT MOST 1048576: true; the input reads as it did. -/
def fnExactIsCompleteUptoRow : OpenClaim := { program := "ytkemegiofiemfaa", sum := "1c73920f42cc366bb0abb395f04843d2f39983ab8f5dd600939eed728238cdef", func := "loop.example/g01323/laws.FnExactIsComplete", spec := "fnExactIsComplete", unfollowed := true, recurses := true, plainKeys := false, apart := false, narrowed := true }
def FnExactIsCompleteUptoSaid : Prop := fnExactIsCompleteUptoRow.holds Try.pinned (OpenSpec.upto fnExactIsCompleteSpec)

/-- 'laws.FnExactIsBase', WHERE WHAT IT READS IS OF BULK AT MOST 1048576: true; the input reads as it did. -/
def fnExactIsBaseUptoRow : OpenClaim := { program := "ytkemegiofiemfaa", sum := "1c73920f42cc366bb0abb395f04843d2f39983ab8f5dd600939eed728238cdef", func := "loop.example/g01323/laws.FnExactIsBase", spec := "fnExactIsBase", unfollowed := true, recurses := true, plainKeys := false, apart := false, narrowed := true }
def FnExactIsBaseUptoSaid : Prop := fnExactIsBaseUptoRow.holds Try.pinned (OpenSpec.upto fnExactIsBaseSpec)

/-- 'laws.FnExactBasesOf', WHERE WHAT IT READS IS OF BULK AT MOST 1048576: true; the input reads as it did. -/
def fnExactBasesOfUptoRow : OpenClaim := { program := "ytkemegiofiemfaa", sum := "1c73920f42cc366bb0abb395f04843d2f39983ab8f5dd600939eed728238cdef", func := "loop.example/g01323/laws.FnExactBasesOf", spec := "fnExactBasesOf", unfollowed := true, recurses := true, plainKeys := false, apart := false, narrowed := true }
def FnExactBasesOfUptoSaid : Prop := fnExactBasesOfUptoRow.holds Try.pinned (OpenSpec.upto fnExactBasesOfSpec)

/-- 'laws.FnExactIsSheffer', WHERE WHAT IT READS IS OF BULK AT MOST 1048576: true; the input reads as it did. -/
def fnExactIsShefferUptoRow : OpenClaim := { program := "ytkemegiofiemfaa", sum := "1c73920f42cc366bb0abb395f04843d2f39983ab8f5dd600939eed728238cdef", func := "loop.example/g01323/laws.FnExactIsSheffer", spec := "fnExactIsSheffer", unfollowed := true, recurses := true, plainKeys := false, apart := false, narrowed := true }
def FnExactIsShefferUptoSaid : Prop := fnExactIsShefferUptoRow.holds Try.pinned (OpenSpec.upto fnExactIsShefferSpec)

/-- 'laws.FnExactShefferFunctions', WHERE WHAT IT READS IS OF BULK AT MOST 1048576: true; the input reads as it did. -/
def fnExactShefferFunctionsUptoRow : OpenClaim := { program := "ytkemegiofiemfaa", sum := "1c73920f42cc366bb0abb395f04843d2f39983ab8f5dd600939eed728238cdef", func := "loop.example/g01323/laws.FnExactShefferFunctions", spec := "fnExactShefferFunctions", unfollowed := true, recurses := true, plainKeys := false, apart := false, narrowed := true }
def FnExactShefferFunctionsUptoSaid : Prop := fnExactShefferFunctionsUptoRow.holds Try.pinned (OpenSpec.upto fnExactShefferFunctionsSpec)

/-- 'laws.FnExactCountSheffer', WHERE WHAT IT READS IS OF BULK AT MOST 1048576: true; the input reads as it did. -/
def fnExactCountShefferUptoRow : OpenClaim := { program := "ytkemegiofiemfaa", sum := "1c73920f42cc366bb0abb395f04843d2f39983ab8f5dd600939eed728238cdef", func := "loop.example/g01323/laws.FnExactCountSheffer", spec := "fnExactCountSheffer", unfollowed := true, recurses := true, plainKeys := false, apart := false, narrowed := true }
def FnExactCountShefferUptoSaid : Prop := fnExactCountShefferUptoRow.holds Try.pinned (OpenSpec.upto fnExactCountShefferSpec)

end Rows
end Go.Proofs.Ytkemegiofiemfaa
