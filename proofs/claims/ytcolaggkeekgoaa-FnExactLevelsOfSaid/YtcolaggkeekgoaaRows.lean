/-
  No cell of these rows narrows 'for every input' (looked for: loops, veiled, ifaces, maps, wideKeys, modest, calm, conditions, laid).
  DERIVED. THE GIVEN ROWS OF THIS SEAT. 12 by the template 'for every input the law returns true; each argument reads behind the call as it read before'; 0 by the template 'total and deterministic' (their statements: YtcolaggkeekgoaaTotals.lean).
  GIVEN WITH THE SEED: the statements are not yours to turn. If you find one false, say at which input.
  Laid BY PROGRAM, IN A SANDBOX (cutbox-rows.mjs): the forced cells as the released guide's own fill.sh prints them over the translation 0fe15036e10a4aad… (all of the seat's roots in one cut). By AI agents, Wed Nov 11 2026. No macro, syntax, notation, axiom, sorry.
-/
import Derived.Test.YtcolaggkeekgoaaChecked
import GoSem.Claim
import GoSem.ClaimJoined
import GoSem.ClaimMapViews
import Derived.JoinedTies
import Derived.KernelRfl
namespace Go.Proofs.Ytcolaggkeekgoaa
/- THE CELL 'sum', in the pinned program and in every row, IS THE sha256 OF THE DUMP (.gsa) THAT YtcolaggkeekgoaaProg.lean LOADS. Nothing in Lean hashes anything: it is a label: what it is worth is what the hold of that sum in a sandbox is worth. -/
noncomputable def Try.pinned : Pinned := { name := "ytcolaggkeekgoaa", sum := "0fe15036e10a4aad9c53212db2aa432987a560b9ef09cb5257ef685cdace337d", checked := Try.checked }
namespace Rows
def none {H : Type} : Left H := { results := [], args := [] }

/-- 'laws.FnExactDerivativeBy': WHATEVER THE INPUT: true; the input reads as it did. -/
def fnExactDerivativeBySpec : ChangeSpec := { name := "fnExactDerivativeBy", fn := fun _ => fun
  | [d1, d2] => { results := [.lit (.bool true)], args := [d1, d2] }
  | _ => none }
def fnExactDerivativeByRow : OpenClaim := { program := "ytcolaggkeekgoaa", sum := "0fe15036e10a4aad9c53212db2aa432987a560b9ef09cb5257ef685cdace337d", func := "loop.example/g01323/laws.FnExactDerivativeBy", spec := "fnExactDerivativeBy", unfollowed := true, recurses := true, apart := false }
def FnExactDerivativeBySaid : Prop := fnExactDerivativeByRow.holds Try.pinned (OpenSpec.ofChange fnExactDerivativeBySpec)

/-- ITS FALSE NEIGHBOUR: 'it returns false'. Refute it at one input. -/
def fnExactDerivativeByWrong : ChangeSpec := { name := "fnExactDerivativeBy", fn := fun _ => fun
  | [d1, d2] => { results := [.lit (.bool false)], args := [d1, d2] }
  | _ => none }
def FnExactDerivativeByWrongFalsely : Prop := fnExactDerivativeByRow.holds Try.pinned (OpenSpec.ofChange fnExactDerivativeByWrong)

/-- 'laws.FnExactIsMonotone': WHATEVER THE INPUT: true; the input reads as it did. -/
def fnExactIsMonotoneSpec : ChangeSpec := { name := "fnExactIsMonotone", fn := fun _ => fun
  | [d] => { results := [.lit (.bool true)], args := [d] }
  | _ => none }
def fnExactIsMonotoneRow : OpenClaim := { program := "ytcolaggkeekgoaa", sum := "0fe15036e10a4aad9c53212db2aa432987a560b9ef09cb5257ef685cdace337d", func := "loop.example/g01323/laws.FnExactIsMonotone", spec := "fnExactIsMonotone", unfollowed := true, recurses := true, apart := false }
def FnExactIsMonotoneSaid : Prop := fnExactIsMonotoneRow.holds Try.pinned (OpenSpec.ofChange fnExactIsMonotoneSpec)

/-- ITS FALSE NEIGHBOUR: 'it returns false'. Refute it at one input. -/
def fnExactIsMonotoneWrong : ChangeSpec := { name := "fnExactIsMonotone", fn := fun _ => fun
  | [d] => { results := [.lit (.bool false)], args := [d] }
  | _ => none }
def FnExactIsMonotoneWrongFalsely : Prop := fnExactIsMonotoneRow.holds Try.pinned (OpenSpec.ofChange fnExactIsMonotoneWrong)

/-- 'laws.FnExactLeastTrueRows': WHATEVER THE INPUT: true; the input reads as it did. -/
def fnExactLeastTrueRowsSpec : ChangeSpec := { name := "fnExactLeastTrueRows", fn := fun _ => fun
  | [d] => { results := [.lit (.bool true)], args := [d] }
  | _ => none }
def fnExactLeastTrueRowsRow : OpenClaim := { program := "ytcolaggkeekgoaa", sum := "0fe15036e10a4aad9c53212db2aa432987a560b9ef09cb5257ef685cdace337d", func := "loop.example/g01323/laws.FnExactLeastTrueRows", spec := "fnExactLeastTrueRows", unfollowed := true, recurses := true, apart := false }
def FnExactLeastTrueRowsSaid : Prop := fnExactLeastTrueRowsRow.holds Try.pinned (OpenSpec.ofChange fnExactLeastTrueRowsSpec)

/-- ITS FALSE NEIGHBOUR: 'it returns false'. Refute it at one input. -/
def fnExactLeastTrueRowsWrong : ChangeSpec := { name := "fnExactLeastTrueRows", fn := fun _ => fun
  | [d] => { results := [.lit (.bool false)], args := [d] }
  | _ => none }
def FnExactLeastTrueRowsWrongFalsely : Prop := fnExactLeastTrueRowsRow.holds Try.pinned (OpenSpec.ofChange fnExactLeastTrueRowsWrong)

/-- 'laws.FnExactGreatestFalseRows': WHATEVER THE INPUT: true; the input reads as it did. -/
def fnExactGreatestFalseRowsSpec : ChangeSpec := { name := "fnExactGreatestFalseRows", fn := fun _ => fun
  | [d] => { results := [.lit (.bool true)], args := [d] }
  | _ => none }
def fnExactGreatestFalseRowsRow : OpenClaim := { program := "ytcolaggkeekgoaa", sum := "0fe15036e10a4aad9c53212db2aa432987a560b9ef09cb5257ef685cdace337d", func := "loop.example/g01323/laws.FnExactGreatestFalseRows", spec := "fnExactGreatestFalseRows", unfollowed := true, recurses := true, apart := false }
def FnExactGreatestFalseRowsSaid : Prop := fnExactGreatestFalseRowsRow.holds Try.pinned (OpenSpec.ofChange fnExactGreatestFalseRowsSpec)

/-- ITS FALSE NEIGHBOUR: 'it returns false'. Refute it at one input. -/
def fnExactGreatestFalseRowsWrong : ChangeSpec := { name := "fnExactGreatestFalseRows", fn := fun _ => fun
  | [d] => { results := [.lit (.bool false)], args := [d] }
  | _ => none }
def FnExactGreatestFalseRowsWrongFalsely : Prop := fnExactGreatestFalseRowsRow.holds Try.pinned (OpenSpec.ofChange fnExactGreatestFalseRowsWrong)

/-- 'laws.FnExactFuncOfRows': WHATEVER THE INPUT: true; the input reads as it did. -/
def fnExactFuncOfRowsSpec : ChangeSpec := { name := "fnExactFuncOfRows", fn := fun _ => fun
  | [d1, d2] => { results := [.lit (.bool true)], args := [d1, d2] }
  | _ => none }
def fnExactFuncOfRowsRow : OpenClaim := { program := "ytcolaggkeekgoaa", sum := "0fe15036e10a4aad9c53212db2aa432987a560b9ef09cb5257ef685cdace337d", func := "loop.example/g01323/laws.FnExactFuncOfRows", spec := "fnExactFuncOfRows", unfollowed := true, recurses := true, apart := false }
def FnExactFuncOfRowsSaid : Prop := fnExactFuncOfRowsRow.holds Try.pinned (OpenSpec.ofChange fnExactFuncOfRowsSpec)

/-- ITS FALSE NEIGHBOUR: 'it returns false'. Refute it at one input. -/
def fnExactFuncOfRowsWrong : ChangeSpec := { name := "fnExactFuncOfRows", fn := fun _ => fun
  | [d1, d2] => { results := [.lit (.bool false)], args := [d1, d2] }
  | _ => none }
def FnExactFuncOfRowsWrongFalsely : Prop := fnExactFuncOfRowsRow.holds Try.pinned (OpenSpec.ofChange fnExactFuncOfRowsWrong)

/-- 'laws.FnExactCountMonotone': WHATEVER THE INPUT: true; the input reads as it did. -/
def fnExactCountMonotoneSpec : ChangeSpec := { name := "fnExactCountMonotone", fn := fun _ => fun
  | [d] => { results := [.lit (.bool true)], args := [d] }
  | _ => none }
def fnExactCountMonotoneRow : OpenClaim := { program := "ytcolaggkeekgoaa", sum := "0fe15036e10a4aad9c53212db2aa432987a560b9ef09cb5257ef685cdace337d", func := "loop.example/g01323/laws.FnExactCountMonotone", spec := "fnExactCountMonotone", unfollowed := true, recurses := true, apart := false }
def FnExactCountMonotoneSaid : Prop := fnExactCountMonotoneRow.holds Try.pinned (OpenSpec.ofChange fnExactCountMonotoneSpec)

/-- ITS FALSE NEIGHBOUR: 'it returns false'. Refute it at one input. -/
def fnExactCountMonotoneWrong : ChangeSpec := { name := "fnExactCountMonotone", fn := fun _ => fun
  | [d] => { results := [.lit (.bool false)], args := [d] }
  | _ => none }
def FnExactCountMonotoneWrongFalsely : Prop := fnExactCountMonotoneRow.holds Try.pinned (OpenSpec.ofChange fnExactCountMonotoneWrong)

/-- 'laws.FnExactTransversalsOf': WHATEVER THE INPUT: true; the input reads as it did. -/
def fnExactTransversalsOfSpec : ChangeSpec := { name := "fnExactTransversalsOf", fn := fun _ => fun
  | [d] => { results := [.lit (.bool true)], args := [d] }
  | _ => none }
def fnExactTransversalsOfRow : OpenClaim := { program := "ytcolaggkeekgoaa", sum := "0fe15036e10a4aad9c53212db2aa432987a560b9ef09cb5257ef685cdace337d", func := "loop.example/g01323/laws.FnExactTransversalsOf", spec := "fnExactTransversalsOf", unfollowed := true, recurses := true, apart := false }
def FnExactTransversalsOfSaid : Prop := fnExactTransversalsOfRow.holds Try.pinned (OpenSpec.ofChange fnExactTransversalsOfSpec)

/-- ITS FALSE NEIGHBOUR: 'it returns false'. Refute it at one input. -/
def fnExactTransversalsOfWrong : ChangeSpec := { name := "fnExactTransversalsOf", fn := fun _ => fun
  | [d] => { results := [.lit (.bool false)], args := [d] }
  | _ => none }
def FnExactTransversalsOfWrongFalsely : Prop := fnExactTransversalsOfRow.holds Try.pinned (OpenSpec.ofChange fnExactTransversalsOfWrong)

/-- 'laws.FnExactIsAsStrong': WHATEVER THE INPUT: true; the input reads as it did. -/
def fnExactIsAsStrongSpec : ChangeSpec := { name := "fnExactIsAsStrong", fn := fun _ => fun
  | [d1, d2, d3] => { results := [.lit (.bool true)], args := [d1, d2, d3] }
  | _ => none }
def fnExactIsAsStrongRow : OpenClaim := { program := "ytcolaggkeekgoaa", sum := "0fe15036e10a4aad9c53212db2aa432987a560b9ef09cb5257ef685cdace337d", func := "loop.example/g01323/laws.FnExactIsAsStrong", spec := "fnExactIsAsStrong", unfollowed := true, recurses := true, apart := false }
def FnExactIsAsStrongSaid : Prop := fnExactIsAsStrongRow.holds Try.pinned (OpenSpec.ofChange fnExactIsAsStrongSpec)

/-- ITS FALSE NEIGHBOUR: 'it returns false'. Refute it at one input. -/
def fnExactIsAsStrongWrong : ChangeSpec := { name := "fnExactIsAsStrong", fn := fun _ => fun
  | [d1, d2, d3] => { results := [.lit (.bool false)], args := [d1, d2, d3] }
  | _ => none }
def FnExactIsAsStrongWrongFalsely : Prop := fnExactIsAsStrongRow.holds Try.pinned (OpenSpec.ofChange fnExactIsAsStrongWrong)

/-- 'laws.FnExactIsRegular': WHATEVER THE INPUT: true; the input reads as it did. -/
def fnExactIsRegularSpec : ChangeSpec := { name := "fnExactIsRegular", fn := fun _ => fun
  | [d] => { results := [.lit (.bool true)], args := [d] }
  | _ => none }
def fnExactIsRegularRow : OpenClaim := { program := "ytcolaggkeekgoaa", sum := "0fe15036e10a4aad9c53212db2aa432987a560b9ef09cb5257ef685cdace337d", func := "loop.example/g01323/laws.FnExactIsRegular", spec := "fnExactIsRegular", unfollowed := true, recurses := true, apart := false }
def FnExactIsRegularSaid : Prop := fnExactIsRegularRow.holds Try.pinned (OpenSpec.ofChange fnExactIsRegularSpec)

/-- ITS FALSE NEIGHBOUR: 'it returns false'. Refute it at one input. -/
def fnExactIsRegularWrong : ChangeSpec := { name := "fnExactIsRegular", fn := fun _ => fun
  | [d] => { results := [.lit (.bool false)], args := [d] }
  | _ => none }
def FnExactIsRegularWrongFalsely : Prop := fnExactIsRegularRow.holds Try.pinned (OpenSpec.ofChange fnExactIsRegularWrong)

/-- 'laws.FnExactLevelsOf': WHATEVER THE INPUT: true; the input reads as it did. -/
def fnExactLevelsOfSpec : ChangeSpec := { name := "fnExactLevelsOf", fn := fun _ => fun
  | [d] => { results := [.lit (.bool true)], args := [d] }
  | _ => none }
def fnExactLevelsOfRow : OpenClaim := { program := "ytcolaggkeekgoaa", sum := "0fe15036e10a4aad9c53212db2aa432987a560b9ef09cb5257ef685cdace337d", func := "loop.example/g01323/laws.FnExactLevelsOf", spec := "fnExactLevelsOf", unfollowed := true, recurses := true, apart := false }
def FnExactLevelsOfSaid : Prop := fnExactLevelsOfRow.holds Try.pinned (OpenSpec.ofChange fnExactLevelsOfSpec)

/-- ITS FALSE NEIGHBOUR: 'it returns false'. Refute it at one input. -/
def fnExactLevelsOfWrong : ChangeSpec := { name := "fnExactLevelsOf", fn := fun _ => fun
  | [d] => { results := [.lit (.bool false)], args := [d] }
  | _ => none }
def FnExactLevelsOfWrongFalsely : Prop := fnExactLevelsOfRow.holds Try.pinned (OpenSpec.ofChange fnExactLevelsOfWrong)

/-- 'laws.FnExactFuncOfLevels': WHATEVER THE INPUT: true; the input reads as it did. -/
def fnExactFuncOfLevelsSpec : ChangeSpec := { name := "fnExactFuncOfLevels", fn := fun _ => fun
  | [d] => { results := [.lit (.bool true)], args := [d] }
  | _ => none }
def fnExactFuncOfLevelsRow : OpenClaim := { program := "ytcolaggkeekgoaa", sum := "0fe15036e10a4aad9c53212db2aa432987a560b9ef09cb5257ef685cdace337d", func := "loop.example/g01323/laws.FnExactFuncOfLevels", spec := "fnExactFuncOfLevels", unfollowed := true, recurses := true, apart := false }
def FnExactFuncOfLevelsSaid : Prop := fnExactFuncOfLevelsRow.holds Try.pinned (OpenSpec.ofChange fnExactFuncOfLevelsSpec)

/-- ITS FALSE NEIGHBOUR: 'it returns false'. Refute it at one input. -/
def fnExactFuncOfLevelsWrong : ChangeSpec := { name := "fnExactFuncOfLevels", fn := fun _ => fun
  | [d] => { results := [.lit (.bool false)], args := [d] }
  | _ => none }
def FnExactFuncOfLevelsWrongFalsely : Prop := fnExactFuncOfLevelsRow.holds Try.pinned (OpenSpec.ofChange fnExactFuncOfLevelsWrong)

/-- 'laws.FnExactGraphOf': WHATEVER THE INPUT: true; the input reads as it did. -/
def fnExactGraphOfSpec : ChangeSpec := { name := "fnExactGraphOf", fn := fun _ => fun
  | [d] => { results := [.lit (.bool true)], args := [d] }
  | _ => none }
def fnExactGraphOfRow : OpenClaim := { program := "ytcolaggkeekgoaa", sum := "0fe15036e10a4aad9c53212db2aa432987a560b9ef09cb5257ef685cdace337d", func := "loop.example/g01323/laws.FnExactGraphOf", spec := "fnExactGraphOf", unfollowed := true, recurses := true, apart := false }
def FnExactGraphOfSaid : Prop := fnExactGraphOfRow.holds Try.pinned (OpenSpec.ofChange fnExactGraphOfSpec)

/-- ITS FALSE NEIGHBOUR: 'it returns false'. Refute it at one input. -/
def fnExactGraphOfWrong : ChangeSpec := { name := "fnExactGraphOf", fn := fun _ => fun
  | [d] => { results := [.lit (.bool false)], args := [d] }
  | _ => none }
def FnExactGraphOfWrongFalsely : Prop := fnExactGraphOfRow.holds Try.pinned (OpenSpec.ofChange fnExactGraphOfWrong)

/- THE SECOND FORM. 'bulk': how many values and letters a reading holds, each counted each time it is reached (what is shared counts as often as it is met; a slice's spare places count too). A statement '..UptoSaid' is the law's where the arguments, and the package variables that the reading takes, are together of bulk at most 1048576: NARROWER than '..Said'. Prove '..Said' where nothing that the law and all that it calls make is longer than what came in: it says more and counts as full. Else prove '..UptoSaid'. A law counts once. -/
mutual
def uptoBulk {H : Type} : DataW H → Nat
  | .lit (.string bytes) => bytes.length + 1
  | .lit _ => 1
  | .nil => 1
  | .ptr d => uptoBulk d + 1
  | .slice elems spare => uptoBulkAll elems + uptoBulkAll spare + 1
  | .agg parts => uptoBulkAll parts + 1
  | .iface _ d => uptoBulk d + 1
  | .map entries => uptoBulkEntries entries + 1
  | .held _ => 1
def uptoBulkAll {H : Type} : List (DataW H) → Nat
  | [] => 0
  | d :: r => uptoBulk d + uptoBulkAll r
def uptoBulkEntries {H : Type} : List (Lit × DataW H) → Nat
  | [] => 0
  | x :: r => uptoBulkEntry x + uptoBulkEntries r
def uptoBulkEntry {H : Type} : Lit × DataW H → Nat
  | (.string bytes, d) => bytes.length + uptoBulk d + 1
  | (_, d) => uptoBulk d + 1
 end
def uptoSmall : (H : Type) → List (DataW H) → Bool := fun _ ds => decide (uptoBulkAll ds ≤ 1048576)
def OpenSpec.upto (s : _root_.Go.ChangeSpec) : _root_.Go.OpenSpec := { _root_.Go.OpenSpec.ofChange s with cond := some uptoSmall }

/-- 'laws.FnExactDerivativeBy', WHERE WHAT IT READS IS OF BULK AT MOST 1048576: true; the input reads as it did. -/
def fnExactDerivativeByUptoRow : OpenClaim := { program := "ytcolaggkeekgoaa", sum := "0fe15036e10a4aad9c53212db2aa432987a560b9ef09cb5257ef685cdace337d", func := "loop.example/g01323/laws.FnExactDerivativeBy", spec := "fnExactDerivativeBy", unfollowed := true, recurses := true, apart := false, narrowed := true }
def FnExactDerivativeByUptoSaid : Prop := fnExactDerivativeByUptoRow.holds Try.pinned (OpenSpec.upto fnExactDerivativeBySpec)

/-- 'laws.FnExactIsMonotone', WHERE WHAT IT READS IS OF BULK AT MOST 1048576: true; the input reads as it did. -/
def fnExactIsMonotoneUptoRow : OpenClaim := { program := "ytcolaggkeekgoaa", sum := "0fe15036e10a4aad9c53212db2aa432987a560b9ef09cb5257ef685cdace337d", func := "loop.example/g01323/laws.FnExactIsMonotone", spec := "fnExactIsMonotone", unfollowed := true, recurses := true, apart := false, narrowed := true }
def FnExactIsMonotoneUptoSaid : Prop := fnExactIsMonotoneUptoRow.holds Try.pinned (OpenSpec.upto fnExactIsMonotoneSpec)

/-- 'laws.FnExactLeastTrueRows', WHERE WHAT IT READS IS OF BULK AT MOST 1048576: true; the input reads as it did. -/
def fnExactLeastTrueRowsUptoRow : OpenClaim := { program := "ytcolaggkeekgoaa", sum := "0fe15036e10a4aad9c53212db2aa432987a560b9ef09cb5257ef685cdace337d", func := "loop.example/g01323/laws.FnExactLeastTrueRows", spec := "fnExactLeastTrueRows", unfollowed := true, recurses := true, apart := false, narrowed := true }
def FnExactLeastTrueRowsUptoSaid : Prop := fnExactLeastTrueRowsUptoRow.holds Try.pinned (OpenSpec.upto fnExactLeastTrueRowsSpec)

/-- 'laws.FnExactGreatestFalseRows', WHERE WHAT IT READS IS OF BULK AT MOST 1048576: true; the input reads as it did. -/
def fnExactGreatestFalseRowsUptoRow : OpenClaim := { program := "ytcolaggkeekgoaa", sum := "0fe15036e10a4aad9c53212db2aa432987a560b9ef09cb5257ef685cdace337d", func := "loop.example/g01323/laws.FnExactGreatestFalseRows", spec := "fnExactGreatestFalseRows", unfollowed := true, recurses := true, apart := false, narrowed := true }
def FnExactGreatestFalseRowsUptoSaid : Prop := fnExactGreatestFalseRowsUptoRow.holds Try.pinned (OpenSpec.upto fnExactGreatestFalseRowsSpec)

/-- 'laws.FnExactFuncOfRows', WHERE WHAT IT READS IS OF BULK AT MOST 1048576: true; the input reads as it did. -/
def fnExactFuncOfRowsUptoRow : OpenClaim := { program := "ytcolaggkeekgoaa", sum := "0fe15036e10a4aad9c53212db2aa432987a560b9ef09cb5257ef685cdace337d", func := "loop.example/g01323/laws.FnExactFuncOfRows", spec := "fnExactFuncOfRows", unfollowed := true, recurses := true, apart := false, narrowed := true }
def FnExactFuncOfRowsUptoSaid : Prop := fnExactFuncOfRowsUptoRow.holds Try.pinned (OpenSpec.upto fnExactFuncOfRowsSpec)

/-- 'laws.FnExactCountMonotone', WHERE WHAT IT READS IS OF BULK AT MOST 1048576: true; the input reads as it did. -/
def fnExactCountMonotoneUptoRow : OpenClaim := { program := "ytcolaggkeekgoaa", sum := "0fe15036e10a4aad9c53212db2aa432987a560b9ef09cb5257ef685cdace337d", func := "loop.example/g01323/laws.FnExactCountMonotone", spec := "fnExactCountMonotone", unfollowed := true, recurses := true, apart := false, narrowed := true }
def FnExactCountMonotoneUptoSaid : Prop := fnExactCountMonotoneUptoRow.holds Try.pinned (OpenSpec.upto fnExactCountMonotoneSpec)

/-- 'laws.FnExactTransversalsOf', WHERE WHAT IT READS IS OF BULK AT MOST 1048576: true; the input reads as it did. -/
def fnExactTransversalsOfUptoRow : OpenClaim := { program := "ytcolaggkeekgoaa", sum := "0fe15036e10a4aad9c53212db2aa432987a560b9ef09cb5257ef685cdace337d", func := "loop.example/g01323/laws.FnExactTransversalsOf", spec := "fnExactTransversalsOf", unfollowed := true, recurses := true, apart := false, narrowed := true }
def FnExactTransversalsOfUptoSaid : Prop := fnExactTransversalsOfUptoRow.holds Try.pinned (OpenSpec.upto fnExactTransversalsOfSpec)

/-- 'laws.FnExactIsAsStrong', WHERE WHAT IT READS IS OF BULK AT MOST 1048576: true; the input reads as it did. -/
def fnExactIsAsStrongUptoRow : OpenClaim := { program := "ytcolaggkeekgoaa", sum := "0fe15036e10a4aad9c53212db2aa432987a560b9ef09cb5257ef685cdace337d", func := "loop.example/g01323/laws.FnExactIsAsStrong", spec := "fnExactIsAsStrong", unfollowed := true, recurses := true, apart := false, narrowed := true }
def FnExactIsAsStrongUptoSaid : Prop := fnExactIsAsStrongUptoRow.holds Try.pinned (OpenSpec.upto fnExactIsAsStrongSpec)

/-- 'laws.FnExactIsRegular', WHERE WHAT IT READS IS OF BULK AT MOST 1048576: true; the input reads as it did. -/
def fnExactIsRegularUptoRow : OpenClaim := { program := "ytcolaggkeekgoaa", sum := "0fe15036e10a4aad9c53212db2aa432987a560b9ef09cb5257ef685cdace337d", func := "loop.example/g01323/laws.FnExactIsRegular", spec := "fnExactIsRegular", unfollowed := true, recurses := true, apart := false, narrowed := true }
def FnExactIsRegularUptoSaid : Prop := fnExactIsRegularUptoRow.holds Try.pinned (OpenSpec.upto fnExactIsRegularSpec)

/-- 'laws.FnExactLevelsOf', WHERE WHAT IT READS IS OF BULK AT MOST 1048576: true; the input reads as it did. -/
def fnExactLevelsOfUptoRow : OpenClaim := { program := "ytcolaggkeekgoaa", sum := "0fe15036e10a4aad9c53212db2aa432987a560b9ef09cb5257ef685cdace337d", func := "loop.example/g01323/laws.FnExactLevelsOf", spec := "fnExactLevelsOf", unfollowed := true, recurses := true, apart := false, narrowed := true }
def FnExactLevelsOfUptoSaid : Prop := fnExactLevelsOfUptoRow.holds Try.pinned (OpenSpec.upto fnExactLevelsOfSpec)

/-- 'laws.FnExactFuncOfLevels', WHERE WHAT IT READS IS OF BULK AT MOST 1048576: true; the input reads as it did. -/
def fnExactFuncOfLevelsUptoRow : OpenClaim := { program := "ytcolaggkeekgoaa", sum := "0fe15036e10a4aad9c53212db2aa432987a560b9ef09cb5257ef685cdace337d", func := "loop.example/g01323/laws.FnExactFuncOfLevels", spec := "fnExactFuncOfLevels", unfollowed := true, recurses := true, apart := false, narrowed := true }
def FnExactFuncOfLevelsUptoSaid : Prop := fnExactFuncOfLevelsUptoRow.holds Try.pinned (OpenSpec.upto fnExactFuncOfLevelsSpec)

/-- 'laws.FnExactGraphOf', WHERE WHAT IT READS IS OF BULK AT MOST 1048576: true; the input reads as it did. -/
def fnExactGraphOfUptoRow : OpenClaim := { program := "ytcolaggkeekgoaa", sum := "0fe15036e10a4aad9c53212db2aa432987a560b9ef09cb5257ef685cdace337d", func := "loop.example/g01323/laws.FnExactGraphOf", spec := "fnExactGraphOf", unfollowed := true, recurses := true, apart := false, narrowed := true }
def FnExactGraphOfUptoSaid : Prop := fnExactGraphOfUptoRow.holds Try.pinned (OpenSpec.upto fnExactGraphOfSpec)

end Rows
end Go.Proofs.Ytcolaggkeekgoaa
