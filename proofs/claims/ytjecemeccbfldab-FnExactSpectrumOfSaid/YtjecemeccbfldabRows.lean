/-
  No cell of these rows narrows 'for every input' (looked for: loops, veiled, ifaces, maps, wideKeys, modest, calm, conditions, laid).
  DERIVED. THE GIVEN ROWS OF THIS SEAT. 10 by the template 'for every input the law returns true; each argument reads behind the call as it read before'; 0 by the template 'total and deterministic' (their statements: YtjecemeccbfldabTotals.lean).
  GIVEN WITH THE SEED: the statements are not yours to turn. If you find one false, say at which input.
  Laid BY PROGRAM, IN A SANDBOX (cutbox-rows.mjs): the forced cells as the released guide's own fill.sh prints them over the translation 7ecf48942da2c7b4… (all of the seat's roots in one cut). By AI agents, Wed Nov 11 2026. No macro, syntax, notation, axiom, sorry.
-/
import Derived.Test.YtjecemeccbfldabChecked
import GoSem.Claim
import GoSem.ClaimJoined
import GoSem.ClaimMapViews
import Derived.JoinedTies
import Derived.KernelRfl
namespace Go.Proofs.Ytjecemeccbfldab
/- THE CELL 'sum', in the pinned program and in every row, IS THE sha256 OF THE DUMP (.gsa) THAT YtjecemeccbfldabProg.lean LOADS. Nothing in Lean hashes anything: it is a label: what it is worth is what the hold of that sum in a sandbox is worth. -/
noncomputable def Try.pinned : Pinned := { name := "ytjecemeccbfldab", sum := "7ecf48942da2c7b44b765f474d6b79d11302b00e50d8b5a4e6c53676f57b7339", checked := Try.checked }
namespace Rows
def none {H : Type} : Left H := { results := [], args := [] }

/-- 'laws.FnExactSpectrumOf': WHATEVER THE INPUT: true; the input reads as it did. -/
def fnExactSpectrumOfSpec : ChangeSpec := { name := "fnExactSpectrumOf", fn := fun _ => fun
  | [d] => { results := [.lit (.bool true)], args := [d] }
  | _ => none }
def fnExactSpectrumOfRow : OpenClaim := { program := "ytjecemeccbfldab", sum := "7ecf48942da2c7b44b765f474d6b79d11302b00e50d8b5a4e6c53676f57b7339", func := "loop.example/g01323/laws.FnExactSpectrumOf", spec := "fnExactSpectrumOf", unfollowed := true, recurses := true, plainKeys := false, apart := false }
def FnExactSpectrumOfSaid : Prop := fnExactSpectrumOfRow.holds Try.pinned (OpenSpec.ofChange fnExactSpectrumOfSpec)

/-- ITS FALSE NEIGHBOUR: 'it returns false'. Refute it at one input. -/
def fnExactSpectrumOfWrong : ChangeSpec := { name := "fnExactSpectrumOf", fn := fun _ => fun
  | [d] => { results := [.lit (.bool false)], args := [d] }
  | _ => none }
def FnExactSpectrumOfWrongFalsely : Prop := fnExactSpectrumOfRow.holds Try.pinned (OpenSpec.ofChange fnExactSpectrumOfWrong)

/-- 'laws.FnExactAffineDistance': WHATEVER THE INPUT: true; the input reads as it did. -/
def fnExactAffineDistanceSpec : ChangeSpec := { name := "fnExactAffineDistance", fn := fun _ => fun
  | [d] => { results := [.lit (.bool true)], args := [d] }
  | _ => none }
def fnExactAffineDistanceRow : OpenClaim := { program := "ytjecemeccbfldab", sum := "7ecf48942da2c7b44b765f474d6b79d11302b00e50d8b5a4e6c53676f57b7339", func := "loop.example/g01323/laws.FnExactAffineDistance", spec := "fnExactAffineDistance", unfollowed := true, recurses := true, plainKeys := false, apart := false }
def FnExactAffineDistanceSaid : Prop := fnExactAffineDistanceRow.holds Try.pinned (OpenSpec.ofChange fnExactAffineDistanceSpec)

/-- ITS FALSE NEIGHBOUR: 'it returns false'. Refute it at one input. -/
def fnExactAffineDistanceWrong : ChangeSpec := { name := "fnExactAffineDistance", fn := fun _ => fun
  | [d] => { results := [.lit (.bool false)], args := [d] }
  | _ => none }
def FnExactAffineDistanceWrongFalsely : Prop := fnExactAffineDistanceRow.holds Try.pinned (OpenSpec.ofChange fnExactAffineDistanceWrong)

/-- 'laws.FnExactCorrelationsOf': WHATEVER THE INPUT: true; the input reads as it did. -/
def fnExactCorrelationsOfSpec : ChangeSpec := { name := "fnExactCorrelationsOf", fn := fun _ => fun
  | [d] => { results := [.lit (.bool true)], args := [d] }
  | _ => none }
def fnExactCorrelationsOfRow : OpenClaim := { program := "ytjecemeccbfldab", sum := "7ecf48942da2c7b44b765f474d6b79d11302b00e50d8b5a4e6c53676f57b7339", func := "loop.example/g01323/laws.FnExactCorrelationsOf", spec := "fnExactCorrelationsOf", unfollowed := true, recurses := true, plainKeys := false, apart := false }
def FnExactCorrelationsOfSaid : Prop := fnExactCorrelationsOfRow.holds Try.pinned (OpenSpec.ofChange fnExactCorrelationsOfSpec)

/-- ITS FALSE NEIGHBOUR: 'it returns false'. Refute it at one input. -/
def fnExactCorrelationsOfWrong : ChangeSpec := { name := "fnExactCorrelationsOf", fn := fun _ => fun
  | [d] => { results := [.lit (.bool false)], args := [d] }
  | _ => none }
def FnExactCorrelationsOfWrongFalsely : Prop := fnExactCorrelationsOfRow.holds Try.pinned (OpenSpec.ofChange fnExactCorrelationsOfWrong)

/-- 'laws.FnExactInfluencesOf': WHATEVER THE INPUT: true; the input reads as it did. -/
def fnExactInfluencesOfSpec : ChangeSpec := { name := "fnExactInfluencesOf", fn := fun _ => fun
  | [d] => { results := [.lit (.bool true)], args := [d] }
  | _ => none }
def fnExactInfluencesOfRow : OpenClaim := { program := "ytjecemeccbfldab", sum := "7ecf48942da2c7b44b765f474d6b79d11302b00e50d8b5a4e6c53676f57b7339", func := "loop.example/g01323/laws.FnExactInfluencesOf", spec := "fnExactInfluencesOf", unfollowed := true, recurses := true, plainKeys := false, apart := false }
def FnExactInfluencesOfSaid : Prop := fnExactInfluencesOfRow.holds Try.pinned (OpenSpec.ofChange fnExactInfluencesOfSpec)

/-- ITS FALSE NEIGHBOUR: 'it returns false'. Refute it at one input. -/
def fnExactInfluencesOfWrong : ChangeSpec := { name := "fnExactInfluencesOf", fn := fun _ => fun
  | [d] => { results := [.lit (.bool false)], args := [d] }
  | _ => none }
def FnExactInfluencesOfWrongFalsely : Prop := fnExactInfluencesOfRow.holds Try.pinned (OpenSpec.ofChange fnExactInfluencesOfWrong)

/-- 'laws.FnExactIsBalanced': WHATEVER THE INPUT: true; the input reads as it did. -/
def fnExactIsBalancedSpec : ChangeSpec := { name := "fnExactIsBalanced", fn := fun _ => fun
  | [d] => { results := [.lit (.bool true)], args := [d] }
  | _ => none }
def fnExactIsBalancedRow : OpenClaim := { program := "ytjecemeccbfldab", sum := "7ecf48942da2c7b44b765f474d6b79d11302b00e50d8b5a4e6c53676f57b7339", func := "loop.example/g01323/laws.FnExactIsBalanced", spec := "fnExactIsBalanced", plainKeys := false, apart := false }
def FnExactIsBalancedSaid : Prop := fnExactIsBalancedRow.holds Try.pinned (OpenSpec.ofChange fnExactIsBalancedSpec)

/-- ITS FALSE NEIGHBOUR: 'it returns false'. Refute it at one input. -/
def fnExactIsBalancedWrong : ChangeSpec := { name := "fnExactIsBalanced", fn := fun _ => fun
  | [d] => { results := [.lit (.bool false)], args := [d] }
  | _ => none }
def FnExactIsBalancedWrongFalsely : Prop := fnExactIsBalancedRow.holds Try.pinned (OpenSpec.ofChange fnExactIsBalancedWrong)

/-- 'laws.FnExactIsBent': WHATEVER THE INPUT: true; the input reads as it did. -/
def fnExactIsBentSpec : ChangeSpec := { name := "fnExactIsBent", fn := fun _ => fun
  | [d] => { results := [.lit (.bool true)], args := [d] }
  | _ => none }
def fnExactIsBentRow : OpenClaim := { program := "ytjecemeccbfldab", sum := "7ecf48942da2c7b44b765f474d6b79d11302b00e50d8b5a4e6c53676f57b7339", func := "loop.example/g01323/laws.FnExactIsBent", spec := "fnExactIsBent", unfollowed := true, recurses := true, plainKeys := false, apart := false }
def FnExactIsBentSaid : Prop := fnExactIsBentRow.holds Try.pinned (OpenSpec.ofChange fnExactIsBentSpec)

/-- ITS FALSE NEIGHBOUR: 'it returns false'. Refute it at one input. -/
def fnExactIsBentWrong : ChangeSpec := { name := "fnExactIsBent", fn := fun _ => fun
  | [d] => { results := [.lit (.bool false)], args := [d] }
  | _ => none }
def FnExactIsBentWrongFalsely : Prop := fnExactIsBentRow.holds Try.pinned (OpenSpec.ofChange fnExactIsBentWrong)

/-- 'laws.FnExactImmunityOf': WHATEVER THE INPUT: true; the input reads as it did. -/
def fnExactImmunityOfSpec : ChangeSpec := { name := "fnExactImmunityOf", fn := fun _ => fun
  | [d] => { results := [.lit (.bool true)], args := [d] }
  | _ => none }
def fnExactImmunityOfRow : OpenClaim := { program := "ytjecemeccbfldab", sum := "7ecf48942da2c7b44b765f474d6b79d11302b00e50d8b5a4e6c53676f57b7339", func := "loop.example/g01323/laws.FnExactImmunityOf", spec := "fnExactImmunityOf", unfollowed := true, recurses := true, plainKeys := false, apart := false }
def FnExactImmunityOfSaid : Prop := fnExactImmunityOfRow.holds Try.pinned (OpenSpec.ofChange fnExactImmunityOfSpec)

/-- ITS FALSE NEIGHBOUR: 'it returns false'. Refute it at one input. -/
def fnExactImmunityOfWrong : ChangeSpec := { name := "fnExactImmunityOf", fn := fun _ => fun
  | [d] => { results := [.lit (.bool false)], args := [d] }
  | _ => none }
def FnExactImmunityOfWrongFalsely : Prop := fnExactImmunityOfRow.holds Try.pinned (OpenSpec.ofChange fnExactImmunityOfWrong)

/-- 'laws.FnSpectrum': WHATEVER THE INPUT: true; the input reads as it did. -/
def fnSpectrumSpec : ChangeSpec := { name := "fnSpectrum", fn := fun _ => fun
  | [d] => { results := [.lit (.bool true)], args := [d] }
  | _ => none }
def fnSpectrumRow : OpenClaim := { program := "ytjecemeccbfldab", sum := "7ecf48942da2c7b44b765f474d6b79d11302b00e50d8b5a4e6c53676f57b7339", func := "loop.example/g01323/laws.FnSpectrum", spec := "fnSpectrum", unfollowed := true, recurses := true, plainKeys := false, apart := false }
def FnSpectrumSaid : Prop := fnSpectrumRow.holds Try.pinned (OpenSpec.ofChange fnSpectrumSpec)

/-- ITS FALSE NEIGHBOUR: 'it returns false'. Refute it at one input. -/
def fnSpectrumWrong : ChangeSpec := { name := "fnSpectrum", fn := fun _ => fun
  | [d] => { results := [.lit (.bool false)], args := [d] }
  | _ => none }
def FnSpectrumWrongFalsely : Prop := fnSpectrumRow.holds Try.pinned (OpenSpec.ofChange fnSpectrumWrong)

/-- 'laws.FnClasses': WHATEVER THE INPUT: true; the input reads as it did. -/
def fnClassesSpec : ChangeSpec := { name := "fnClasses", fn := fun _ => fun
  | [d] => { results := [.lit (.bool true)], args := [d] }
  | _ => none }
def fnClassesRow : OpenClaim := { program := "ytjecemeccbfldab", sum := "7ecf48942da2c7b44b765f474d6b79d11302b00e50d8b5a4e6c53676f57b7339", func := "loop.example/g01323/laws.FnClasses", spec := "fnClasses", unfollowed := true, recurses := true, plainKeys := false, apart := false }
def FnClassesSaid : Prop := fnClassesRow.holds Try.pinned (OpenSpec.ofChange fnClassesSpec)

/-- ITS FALSE NEIGHBOUR: 'it returns false'. Refute it at one input. -/
def fnClassesWrong : ChangeSpec := { name := "fnClasses", fn := fun _ => fun
  | [d] => { results := [.lit (.bool false)], args := [d] }
  | _ => none }
def FnClassesWrongFalsely : Prop := fnClassesRow.holds Try.pinned (OpenSpec.ofChange fnClassesWrong)

/-- 'laws.FnExactBasesOf': WHATEVER THE INPUT: true; the input reads as it did. -/
def fnExactBasesOfSpec : ChangeSpec := { name := "fnExactBasesOf", fn := fun _ => fun
  | [d] => { results := [.lit (.bool true)], args := [d] }
  | _ => none }
def fnExactBasesOfRow : OpenClaim := { program := "ytjecemeccbfldab", sum := "7ecf48942da2c7b44b765f474d6b79d11302b00e50d8b5a4e6c53676f57b7339", func := "loop.example/g01323/laws.FnExactBasesOf", spec := "fnExactBasesOf", unfollowed := true, recurses := true, plainKeys := false, apart := false }
def FnExactBasesOfSaid : Prop := fnExactBasesOfRow.holds Try.pinned (OpenSpec.ofChange fnExactBasesOfSpec)

/-- ITS FALSE NEIGHBOUR: 'it returns false'. Refute it at one input. -/
def fnExactBasesOfWrong : ChangeSpec := { name := "fnExactBasesOf", fn := fun _ => fun
  | [d] => { results := [.lit (.bool false)], args := [d] }
  | _ => none }
def FnExactBasesOfWrongFalsely : Prop := fnExactBasesOfRow.holds Try.pinned (OpenSpec.ofChange fnExactBasesOfWrong)

/- THE SECOND FORM. 'bulk': how many values and letters a reading holds, each counted each time it is reached (what is shared counts as often as it is met; a slice's spare places count too). A statement '..UptoSaid' is the law's where the arguments, and the package variables that the reading takes, are together of bulk at most 1048576: NARROWER than '..Said'. Prove '..Said' where nothing that the law and all that it calls make is longer than what came in: it says more and counts as full. Else prove '..UptoSaid'. A law counts once. -/
mutual
def uptoBulk {H : Type} : DataW H → Nat
  | .lit (.string bytes) => bytes.length + 1
  | .lit _ => 1
  | .nil => 1
  | .ptr d => uptoBulk d + 1
  | .slice elems spare => uptoBulkAll elems + uptoBulkAll spare + 1
  | .agg parts => uptoBulkAll parts + 1
  | .iface _ d => uptoBulk d + 1
  | .map entries => uptoBulkEntries entries + 1
  | .held _ => 1
def uptoBulkAll {H : Type} : List (DataW H) → Nat
  | [] => 0
  | d :: r => uptoBulk d + uptoBulkAll r
def uptoBulkEntries {H : Type} : List (Lit × DataW H) → Nat
  | [] => 0
  | x :: r => uptoBulkEntry x + uptoBulkEntries r
def uptoBulkEntry {H : Type} : Lit × DataW H → Nat
  | (.string bytes, d) => bytes.length + uptoBulk d + 1
  | (_, d) => uptoBulk d + 1
 end
def uptoSmall : (H : Type) → List (DataW H) → Bool := fun _ ds => decide (uptoBulkAll ds ≤ 1048576)
def OpenSpec.upto (s : _root_.Go.ChangeSpec) : _root_.Go.OpenSpec := { _root_.Go.OpenSpec.ofChange s with cond := some uptoSmall }

/-- 'laws.FnExactSpectrumOf', WHERE WHAT IT READS IS OF BULK AT MOST 1048576: true; the input reads as it did. -/
def fnExactSpectrumOfUptoRow : OpenClaim := { program := "ytjecemeccbfldab", sum := "7ecf48942da2c7b44b765f474d6b79d11302b00e50d8b5a4e6c53676f57b7339", func := "loop.example/g01323/laws.FnExactSpectrumOf", spec := "fnExactSpectrumOf", unfollowed := true, recurses := true, plainKeys := false, apart := false, narrowed := true }
def FnExactSpectrumOfUptoSaid : Prop := fnExactSpectrumOfUptoRow.holds Try.pinned (OpenSpec.upto fnExactSpectrumOfSpec)

/-- 'laws.FnExactAffineDistance', WHERE WHAT IT READS IS OF BULK AT MOST 1048576: true; the input reads as it did. -/
def fnExactAffineDistanceUptoRow : OpenClaim := { program := "ytjecemeccbfldab", sum := "7ecf48942da2c7b44b765f474d6b79d11302b00e50d8b5a4e6c53676f57b7339", func := "loop.example/g01323/laws.FnExactAffineDistance", spec := "fnExactAffineDistance", unfollowed := true, recurses := true, plainKeys := false, apart := false, narrowed := true }
def FnExactAffineDistanceUptoSaid : Prop := fnExactAffineDistanceUptoRow.holds Try.pinned (OpenSpec.upto fnExactAffineDistanceSpec)

/-- 'laws.FnExactCorrelationsOf', WHERE WHAT IT READS IS OF BULK AT MOST 1048576: true; the input reads as it did. -/
def fnExactCorrelationsOfUptoRow : OpenClaim := { program := "ytjecemeccbfldab", sum := "7ecf48942da2c7b44b765f474d6b79d11302b00e50d8b5a4e6c53676f57b7339", func := "loop.example/g01323/laws.FnExactCorrelationsOf", spec := "fnExactCorrelationsOf", unfollowed := true, recurses := true, plainKeys := false, apart := false, narrowed := true }
def FnExactCorrelationsOfUptoSaid : Prop := fnExactCorrelationsOfUptoRow.holds Try.pinned (OpenSpec.upto fnExactCorrelationsOfSpec)

/-- 'laws.FnExactInfluencesOf', WHERE WHAT IT READS IS OF BULK AT MOST 1048576: true; the input reads as it did. -/
def fnExactInfluencesOfUptoRow : OpenClaim := { program := "ytjecemeccbfldab", sum := "7ecf48942da2c7b44b765f474d6b79d11302b00e50d8b5a4e6c53676f57b7339", func := "loop.example/g01323/laws.FnExactInfluencesOf", spec := "fnExactInfluencesOf", unfollowed := true, recurses := true, plainKeys := false, apart := false, narrowed := true }
def FnExactInfluencesOfUptoSaid : Prop := fnExactInfluencesOfUptoRow.holds Try.pinned (OpenSpec.upto fnExactInfluencesOfSpec)

/-- 'laws.FnExactIsBalanced', WHERE WHAT IT READS IS OF BULK AT MOST 1048576: true; the input reads as it did. -/
def fnExactIsBalancedUptoRow : OpenClaim := { program := "ytjecemeccbfldab", sum := "7ecf48942da2c7b44b765f474d6b79d11302b00e50d8b5a4e6c53676f57b7339", func := "loop.example/g01323/laws.FnExactIsBalanced", spec := "fnExactIsBalanced", plainKeys := false, apart := false, narrowed := true }
def FnExactIsBalancedUptoSaid : Prop := fnExactIsBalancedUptoRow.holds Try.pinned (OpenSpec.upto fnExactIsBalancedSpec)

/-- 'laws.FnExactIsBent', WHERE WHAT IT READS IS OF BULK AT MOST 1048576: true; the input reads as it did. -/
def fnExactIsBentUptoRow : OpenClaim := { program := "ytjecemeccbfldab", sum := "7ecf48942da2c7b44b765f474d6b79d11302b00e50d8b5a4e6c53676f57b7339", func := "loop.example/g01323/laws.FnExactIsBent", spec := "fnExactIsBent", unfollowed := true, recurses := true, plainKeys := false, apart := false, narrowed := true }
def FnExactIsBentUptoSaid : Prop := fnExactIsBentUptoRow.holds Try.pinned (OpenSpec.upto fnExactIsBentSpec)

/-- 'laws.FnExactImmunityOf', WHERE WHAT IT READS IS OF BULK AT MOST 1048576: true; the input reads as it did. -/
def fnExactImmunityOfUptoRow : OpenClaim := { program := "ytjecemeccbfldab", sum := "7ecf48942da2c7b44b765f474d6b79d11302b00e50d8b5a4e6c53676f57b7339", func := "loop.example/g01323/laws.FnExactImmunityOf", spec := "fnExactImmunityOf", unfollowed := true, recurses := true, plainKeys := false, apart := false, narrowed := true }
def FnExactImmunityOfUptoSaid : Prop := fnExactImmunityOfUptoRow.holds Try.pinned (OpenSpec.upto fnExactImmunityOfSpec)

/-- 'laws.FnSpectrum', WHERE WHAT IT READS IS OF BULK AT MOST 1048576: true; the input reads as it did. -/
def fnSpectrumUptoRow : OpenClaim := { program := "ytjecemeccbfldab", sum := "7ecf48942da2c7b44b765f474d6b79d11302b00e50d8b5a4e6c53676f57b7339", func := "loop.example/g01323/laws.FnSpectrum", spec := "fnSpectrum", unfollowed := true, recurses := true, plainKeys := false, apart := false, narrowed := true }
def FnSpectrumUptoSaid : Prop := fnSpectrumUptoRow.holds Try.pinned (OpenSpec.upto fnSpectrumSpec)

/-- 'laws.FnClasses', WHERE WHAT IT READS IS OF BULK AT MOST 1048576: true; the input reads as it did. -/
def fnClassesUptoRow : OpenClaim := { program := "ytjecemeccbfldab", sum := "7ecf48942da2c7b44b765f474d6b79d11302b00e50d8b5a4e6c53676f57b7339", func := "loop.example/g01323/laws.FnClasses", spec := "fnClasses", unfollowed := true, recurses := true, plainKeys := false, apart := false, narrowed := true }
def FnClassesUptoSaid : Prop := fnClassesUptoRow.holds Try.pinned (OpenSpec.upto fnClassesSpec)

/-- 'laws.FnExactBasesOf', WHERE WHAT IT READS IS OF BULK AT MOST 1048576: true; the input reads as it did. -/
def fnExactBasesOfUptoRow : OpenClaim := { program := "ytjecemeccbfldab", sum := "7ecf48942da2c7b44b765f474d6b79d11302b00e50d8b5a4e6c53676f57b7339", func := "loop.example/g01323/laws.FnExactBasesOf", spec := "fnExactBasesOf", unfollowed := true, recurses := true, plainKeys := false, apart := false, narrowed := true }
def FnExactBasesOfUptoSaid : Prop := fnExactBasesOfUptoRow.holds Try.pinned (OpenSpec.upto fnExactBasesOfSpec)

end Rows
end Go.Proofs.Ytjecemeccbfldab
