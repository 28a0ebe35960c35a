/-
  No cell of these rows narrows 'for every input' (looked for: loops, veiled, ifaces, maps, wideKeys, modest, calm, conditions, laid).
  DERIVED. THE GIVEN ROWS OF THIS SEAT. 10 by the template 'for every input the law returns true; each argument reads behind the call as it read before'; 0 by the template 'total and deterministic' (their statements: YtbdhlokbpbiijabTotals.lean).
  GIVEN WITH THE SEED: the statements are not yours to turn. If you find one false, say at which input.
  Laid BY PROGRAM, IN A SANDBOX (cutbox-rows.mjs): the forced cells as the released guide's own fill.sh prints them over the translation b218f923bfd23698… (all of the seat's roots in one cut). By AI agents, Wed Nov 11 2026. No macro, syntax, notation, axiom, sorry.
-/
import Derived.Test.YtbdhlokbpbiijabChecked
import GoSem.Claim
import GoSem.ClaimJoined
import GoSem.ClaimMapViews
import Derived.JoinedTies
import Derived.KernelRfl
namespace Go.Proofs.Ytbdhlokbpbiijab
/- THE CELL 'sum', in the pinned program and in every row, IS THE sha256 OF THE DUMP (.gsa) THAT YtbdhlokbpbiijabProg.lean LOADS. Nothing in Lean hashes anything: it is a label: what it is worth is what the hold of that sum in a sandbox is worth. -/
noncomputable def Try.pinned : Pinned := { name := "ytbdhlokbpbiijab", sum := "b218f923bfd2369804c2b8da7175d448c7bca7181081deed9e35e2b0dd0fc1b0", checked := Try.checked }
namespace Rows
def none {H : Type} : Left H := { results := [], args := [] }

/-- 'laws.FnExactNarrowDomains': WHATEVER THE INPUT: true; the input reads as it did. -/
def fnExactNarrowDomainsSpec : ChangeSpec := { name := "fnExactNarrowDomains", fn := fun _ => fun
  | [d1, d2] => { results := [.lit (.bool true)], args := [d1, d2] }
  | _ => none }
def fnExactNarrowDomainsRow : OpenClaim := { program := "ytbdhlokbpbiijab", sum := "b218f923bfd2369804c2b8da7175d448c7bca7181081deed9e35e2b0dd0fc1b0", func := "loop.example/g01323/laws.FnExactNarrowDomains", spec := "fnExactNarrowDomains", unfollowed := true, recurses := true, apart := false }
def FnExactNarrowDomainsSaid : Prop := fnExactNarrowDomainsRow.holds Try.pinned (OpenSpec.ofChange fnExactNarrowDomainsSpec)

/-- ITS FALSE NEIGHBOUR: 'it returns false'. Refute it at one input. -/
def fnExactNarrowDomainsWrong : ChangeSpec := { name := "fnExactNarrowDomains", fn := fun _ => fun
  | [d1, d2] => { results := [.lit (.bool false)], args := [d1, d2] }
  | _ => none }
def FnExactNarrowDomainsWrongFalsely : Prop := fnExactNarrowDomainsRow.holds Try.pinned (OpenSpec.ofChange fnExactNarrowDomainsWrong)

/-- 'laws.FnExactIsIdempotent': WHATEVER THE INPUT: true; the input reads as it did. -/
def fnExactIsIdempotentSpec : ChangeSpec := { name := "fnExactIsIdempotent", fn := fun _ => fun
  | [d] => { results := [.lit (.bool true)], args := [d] }
  | _ => none }
def fnExactIsIdempotentRow : OpenClaim := { program := "ytbdhlokbpbiijab", sum := "b218f923bfd2369804c2b8da7175d448c7bca7181081deed9e35e2b0dd0fc1b0", func := "loop.example/g01323/laws.FnExactIsIdempotent", spec := "fnExactIsIdempotent", unfollowed := true, recurses := true, apart := false }
def FnExactIsIdempotentSaid : Prop := fnExactIsIdempotentRow.holds Try.pinned (OpenSpec.ofChange fnExactIsIdempotentSpec)

/-- ITS FALSE NEIGHBOUR: 'it returns false'. Refute it at one input. -/
def fnExactIsIdempotentWrong : ChangeSpec := { name := "fnExactIsIdempotent", fn := fun _ => fun
  | [d] => { results := [.lit (.bool false)], args := [d] }
  | _ => none }
def FnExactIsIdempotentWrongFalsely : Prop := fnExactIsIdempotentRow.holds Try.pinned (OpenSpec.ofChange fnExactIsIdempotentWrong)

/-- 'laws.FnExactIsSymmetric': WHATEVER THE INPUT: true; the input reads as it did. -/
def fnExactIsSymmetricSpec : ChangeSpec := { name := "fnExactIsSymmetric", fn := fun _ => fun
  | [d] => { results := [.lit (.bool true)], args := [d] }
  | _ => none }
def fnExactIsSymmetricRow : OpenClaim := { program := "ytbdhlokbpbiijab", sum := "b218f923bfd2369804c2b8da7175d448c7bca7181081deed9e35e2b0dd0fc1b0", func := "loop.example/g01323/laws.FnExactIsSymmetric", spec := "fnExactIsSymmetric", unfollowed := true, recurses := true, apart := false }
def FnExactIsSymmetricSaid : Prop := fnExactIsSymmetricRow.holds Try.pinned (OpenSpec.ofChange fnExactIsSymmetricSpec)

/-- ITS FALSE NEIGHBOUR: 'it returns false'. Refute it at one input. -/
def fnExactIsSymmetricWrong : ChangeSpec := { name := "fnExactIsSymmetric", fn := fun _ => fun
  | [d] => { results := [.lit (.bool false)], args := [d] }
  | _ => none }
def FnExactIsSymmetricWrongFalsely : Prop := fnExactIsSymmetricRow.holds Try.pinned (OpenSpec.ofChange fnExactIsSymmetricWrong)

/-- 'laws.FnExactIsOfKind': WHATEVER THE INPUT: true; the input reads as it did. -/
def fnExactIsOfKindSpec : ChangeSpec := { name := "fnExactIsOfKind", fn := fun _ => fun
  | [d1, d2] => { results := [.lit (.bool true)], args := [d1, d2] }
  | _ => none }
def fnExactIsOfKindRow : OpenClaim := { program := "ytbdhlokbpbiijab", sum := "b218f923bfd2369804c2b8da7175d448c7bca7181081deed9e35e2b0dd0fc1b0", func := "loop.example/g01323/laws.FnExactIsOfKind", spec := "fnExactIsOfKind", unfollowed := true, recurses := true, apart := false }
def FnExactIsOfKindSaid : Prop := fnExactIsOfKindRow.holds Try.pinned (OpenSpec.ofChange fnExactIsOfKindSpec)

/-- ITS FALSE NEIGHBOUR: 'it returns false'. Refute it at one input. -/
def fnExactIsOfKindWrong : ChangeSpec := { name := "fnExactIsOfKind", fn := fun _ => fun
  | [d1, d2] => { results := [.lit (.bool false)], args := [d1, d2] }
  | _ => none }
def FnExactIsOfKindWrongFalsely : Prop := fnExactIsOfKindRow.holds Try.pinned (OpenSpec.ofChange fnExactIsOfKindWrong)

/-- 'laws.FnExactIsSemilattice': WHATEVER THE INPUT: true; the input reads as it did. -/
def fnExactIsSemilatticeSpec : ChangeSpec := { name := "fnExactIsSemilattice", fn := fun _ => fun
  | [d] => { results := [.lit (.bool true)], args := [d] }
  | _ => none }
def fnExactIsSemilatticeRow : OpenClaim := { program := "ytbdhlokbpbiijab", sum := "b218f923bfd2369804c2b8da7175d448c7bca7181081deed9e35e2b0dd0fc1b0", func := "loop.example/g01323/laws.FnExactIsSemilattice", spec := "fnExactIsSemilattice", unfollowed := true, recurses := true, apart := false }
def FnExactIsSemilatticeSaid : Prop := fnExactIsSemilatticeRow.holds Try.pinned (OpenSpec.ofChange fnExactIsSemilatticeSpec)

/-- ITS FALSE NEIGHBOUR: 'it returns false'. Refute it at one input. -/
def fnExactIsSemilatticeWrong : ChangeSpec := { name := "fnExactIsSemilattice", fn := fun _ => fun
  | [d] => { results := [.lit (.bool false)], args := [d] }
  | _ => none }
def FnExactIsSemilatticeWrongFalsely : Prop := fnExactIsSemilatticeRow.holds Try.pinned (OpenSpec.ofChange fnExactIsSemilatticeWrong)

/-- 'laws.FnExactHasNearUnanimity': WHATEVER THE INPUT: true; the input reads as it did. -/
def fnExactHasNearUnanimitySpec : ChangeSpec := { name := "fnExactHasNearUnanimity", fn := fun _ => fun
  | [d] => { results := [.lit (.bool true)], args := [d] }
  | _ => none }
def fnExactHasNearUnanimityRow : OpenClaim := { program := "ytbdhlokbpbiijab", sum := "b218f923bfd2369804c2b8da7175d448c7bca7181081deed9e35e2b0dd0fc1b0", func := "loop.example/g01323/laws.FnExactHasNearUnanimity", spec := "fnExactHasNearUnanimity", unfollowed := true, recurses := true, apart := false }
def FnExactHasNearUnanimitySaid : Prop := fnExactHasNearUnanimityRow.holds Try.pinned (OpenSpec.ofChange fnExactHasNearUnanimitySpec)

/-- ITS FALSE NEIGHBOUR: 'it returns false'. Refute it at one input. -/
def fnExactHasNearUnanimityWrong : ChangeSpec := { name := "fnExactHasNearUnanimity", fn := fun _ => fun
  | [d] => { results := [.lit (.bool false)], args := [d] }
  | _ => none }
def FnExactHasNearUnanimityWrongFalsely : Prop := fnExactHasNearUnanimityRow.holds Try.pinned (OpenSpec.ofChange fnExactHasNearUnanimityWrong)

/-- 'laws.FnExactAreCommuting': WHATEVER THE INPUT: true; the input reads as it did. -/
def fnExactAreCommutingSpec : ChangeSpec := { name := "fnExactAreCommuting", fn := fun _ => fun
  | [d1, d2] => { results := [.lit (.bool true)], args := [d1, d2] }
  | _ => none }
def fnExactAreCommutingRow : OpenClaim := { program := "ytbdhlokbpbiijab", sum := "b218f923bfd2369804c2b8da7175d448c7bca7181081deed9e35e2b0dd0fc1b0", func := "loop.example/g01323/laws.FnExactAreCommuting", spec := "fnExactAreCommuting", unfollowed := true, recurses := true, apart := false }
def FnExactAreCommutingSaid : Prop := fnExactAreCommutingRow.holds Try.pinned (OpenSpec.ofChange fnExactAreCommutingSpec)

/-- ITS FALSE NEIGHBOUR: 'it returns false'. Refute it at one input. -/
def fnExactAreCommutingWrong : ChangeSpec := { name := "fnExactAreCommuting", fn := fun _ => fun
  | [d1, d2] => { results := [.lit (.bool false)], args := [d1, d2] }
  | _ => none }
def FnExactAreCommutingWrongFalsely : Prop := fnExactAreCommutingRow.holds Try.pinned (OpenSpec.ofChange fnExactAreCommutingWrong)

/-- 'laws.FnExactCentraliserOf': WHATEVER THE INPUT: true; the input reads as it did. -/
def fnExactCentraliserOfSpec : ChangeSpec := { name := "fnExactCentraliserOf", fn := fun _ => fun
  | [d1, d2] => { results := [.lit (.bool true)], args := [d1, d2] }
  | _ => none }
def fnExactCentraliserOfRow : OpenClaim := { program := "ytbdhlokbpbiijab", sum := "b218f923bfd2369804c2b8da7175d448c7bca7181081deed9e35e2b0dd0fc1b0", func := "loop.example/g01323/laws.FnExactCentraliserOf", spec := "fnExactCentraliserOf", unfollowed := true, recurses := true, apart := false }
def FnExactCentraliserOfSaid : Prop := fnExactCentraliserOfRow.holds Try.pinned (OpenSpec.ofChange fnExactCentraliserOfSpec)

/-- ITS FALSE NEIGHBOUR: 'it returns false'. Refute it at one input. -/
def fnExactCentraliserOfWrong : ChangeSpec := { name := "fnExactCentraliserOf", fn := fun _ => fun
  | [d1, d2] => { results := [.lit (.bool false)], args := [d1, d2] }
  | _ => none }
def FnExactCentraliserOfWrongFalsely : Prop := fnExactCentraliserOfRow.holds Try.pinned (OpenSpec.ofChange fnExactCentraliserOfWrong)

/-- 'laws.FnExactIsAbelian': WHATEVER THE INPUT: true; the input reads as it did. -/
def fnExactIsAbelianSpec : ChangeSpec := { name := "fnExactIsAbelian", fn := fun _ => fun
  | [d] => { results := [.lit (.bool true)], args := [d] }
  | _ => none }
def fnExactIsAbelianRow : OpenClaim := { program := "ytbdhlokbpbiijab", sum := "b218f923bfd2369804c2b8da7175d448c7bca7181081deed9e35e2b0dd0fc1b0", func := "loop.example/g01323/laws.FnExactIsAbelian", spec := "fnExactIsAbelian", unfollowed := true, recurses := true, apart := false }
def FnExactIsAbelianSaid : Prop := fnExactIsAbelianRow.holds Try.pinned (OpenSpec.ofChange fnExactIsAbelianSpec)

/-- ITS FALSE NEIGHBOUR: 'it returns false'. Refute it at one input. -/
def fnExactIsAbelianWrong : ChangeSpec := { name := "fnExactIsAbelian", fn := fun _ => fun
  | [d] => { results := [.lit (.bool false)], args := [d] }
  | _ => none }
def FnExactIsAbelianWrongFalsely : Prop := fnExactIsAbelianRow.holds Try.pinned (OpenSpec.ofChange fnExactIsAbelianWrong)

/-- 'laws.FnExactKindCounts': WHATEVER THE INPUT: true; the input reads as it did. -/
def fnExactKindCountsSpec : ChangeSpec := { name := "fnExactKindCounts", fn := fun _ => fun
  | [d] => { results := [.lit (.bool true)], args := [d] }
  | _ => none }
def fnExactKindCountsRow : OpenClaim := { program := "ytbdhlokbpbiijab", sum := "b218f923bfd2369804c2b8da7175d448c7bca7181081deed9e35e2b0dd0fc1b0", func := "loop.example/g01323/laws.FnExactKindCounts", spec := "fnExactKindCounts", unfollowed := true, recurses := true, apart := false }
def FnExactKindCountsSaid : Prop := fnExactKindCountsRow.holds Try.pinned (OpenSpec.ofChange fnExactKindCountsSpec)

/-- ITS FALSE NEIGHBOUR: 'it returns false'. Refute it at one input. -/
def fnExactKindCountsWrong : ChangeSpec := { name := "fnExactKindCounts", fn := fun _ => fun
  | [d] => { results := [.lit (.bool false)], args := [d] }
  | _ => none }
def FnExactKindCountsWrongFalsely : Prop := fnExactKindCountsRow.holds Try.pinned (OpenSpec.ofChange fnExactKindCountsWrong)

/- THE SECOND FORM. 'bulk': how many values and letters a reading holds, each counted each time it is reached (what is shared counts as often as it is met; a slice's spare places count too). A statement '..UptoSaid' is the law's where the arguments, and the package variables that the reading takes, are together of bulk at most 1048576: NARROWER than '..Said'. Prove '..Said' where nothing that the law and all that it calls make is longer than what came in: it says more and counts as full. Else prove '..UptoSaid'. A law counts once. -/
mutual
def uptoBulk {H : Type} : DataW H → Nat
  | .lit (.string bytes) => bytes.length + 1
  | .lit _ => 1
  | .nil => 1
  | .ptr d => uptoBulk d + 1
  | .slice elems spare => uptoBulkAll elems + uptoBulkAll spare + 1
  | .agg parts => uptoBulkAll parts + 1
  | .iface _ d => uptoBulk d + 1
  | .map entries => uptoBulkEntries entries + 1
  | .held _ => 1
def uptoBulkAll {H : Type} : List (DataW H) → Nat
  | [] => 0
  | d :: r => uptoBulk d + uptoBulkAll r
def uptoBulkEntries {H : Type} : List (Lit × DataW H) → Nat
  | [] => 0
  | x :: r => uptoBulkEntry x + uptoBulkEntries r
def uptoBulkEntry {H : Type} : Lit × DataW H → Nat
  | (.string bytes, d) => bytes.length + uptoBulk d + 1
  | (_, d) => uptoBulk d + 1
 end
def uptoSmall : (H : Type) → List (DataW H) → Bool := fun _ ds => decide (uptoBulkAll ds ≤ 1048576)
def OpenSpec.upto (s : _root_.Go.ChangeSpec) : _root_.Go.OpenSpec := { _root_.Go.OpenSpec.ofChange s with cond := some uptoSmall }

/-- 'laws.FnExactNarrowDomains', WHERE WHAT IT READS IS OF BULK AT MOST 1048576: true; the input reads as it did. -/
def fnExactNarrowDomainsUptoRow : OpenClaim := { program := "ytbdhlokbpbiijab", sum := "b218f923bfd2369804c2b8da7175d448c7bca7181081deed9e35e2b0dd0fc1b0", func := "loop.example/g01323/laws.FnExactNarrowDomains", spec := "fnExactNarrowDomains", unfollowed := true, recurses := true, apart := false, narrowed := true }
def FnExactNarrowDomainsUptoSaid : Prop := fnExactNarrowDomainsUptoRow.holds Try.pinned (OpenSpec.upto fnExactNarrowDomainsSpec)

/-- 'laws.FnExactIsIdempotent', WHERE WHAT IT READS IS OF BULK AT MOST 1048576: true; the input reads as it did. -/
def fnExactIsIdempotentUptoRow : OpenClaim := { program := "ytbdhlokbpbiijab", sum := "b218f923bfd2369804c2b8da7175d448c7bca7181081deed9e35e2b0dd0fc1b0", func := "loop.example/g01323/laws.FnExactIsIdempotent", spec := "fnExactIsIdempotent", unfollowed := true, recurses := true, apart := false, narrowed := true }
def FnExactIsIdempotentUptoSaid : Prop := fnExactIsIdempotentUptoRow.holds Try.pinned (OpenSpec.upto fnExactIsIdempotentSpec)

/-- 'laws.FnExactIsSymmetric', WHERE WHAT IT READS IS OF BULK AT MOST 1048576: true; the input reads as it did. -/
def fnExactIsSymmetricUptoRow : OpenClaim := { program := "ytbdhlokbpbiijab", sum := "b218f923bfd2369804c2b8da7175d448c7bca7181081deed9e35e2b0dd0fc1b0", func := "loop.example/g01323/laws.FnExactIsSymmetric", spec := "fnExactIsSymmetric", unfollowed := true, recurses := true, apart := false, narrowed := true }
def FnExactIsSymmetricUptoSaid : Prop := fnExactIsSymmetricUptoRow.holds Try.pinned (OpenSpec.upto fnExactIsSymmetricSpec)

/-- 'laws.FnExactIsOfKind', WHERE WHAT IT READS IS OF BULK AT MOST 1048576: true; the input reads as it did. -/
def fnExactIsOfKindUptoRow : OpenClaim := { program := "ytbdhlokbpbiijab", sum := "b218f923bfd2369804c2b8da7175d448c7bca7181081deed9e35e2b0dd0fc1b0", func := "loop.example/g01323/laws.FnExactIsOfKind", spec := "fnExactIsOfKind", unfollowed := true, recurses := true, apart := false, narrowed := true }
def FnExactIsOfKindUptoSaid : Prop := fnExactIsOfKindUptoRow.holds Try.pinned (OpenSpec.upto fnExactIsOfKindSpec)

/-- 'laws.FnExactIsSemilattice', WHERE WHAT IT READS IS OF BULK AT MOST 1048576: true; the input reads as it did. -/
def fnExactIsSemilatticeUptoRow : OpenClaim := { program := "ytbdhlokbpbiijab", sum := "b218f923bfd2369804c2b8da7175d448c7bca7181081deed9e35e2b0dd0fc1b0", func := "loop.example/g01323/laws.FnExactIsSemilattice", spec := "fnExactIsSemilattice", unfollowed := true, recurses := true, apart := false, narrowed := true }
def FnExactIsSemilatticeUptoSaid : Prop := fnExactIsSemilatticeUptoRow.holds Try.pinned (OpenSpec.upto fnExactIsSemilatticeSpec)

/-- 'laws.FnExactHasNearUnanimity', WHERE WHAT IT READS IS OF BULK AT MOST 1048576: true; the input reads as it did. -/
def fnExactHasNearUnanimityUptoRow : OpenClaim := { program := "ytbdhlokbpbiijab", sum := "b218f923bfd2369804c2b8da7175d448c7bca7181081deed9e35e2b0dd0fc1b0", func := "loop.example/g01323/laws.FnExactHasNearUnanimity", spec := "fnExactHasNearUnanimity", unfollowed := true, recurses := true, apart := false, narrowed := true }
def FnExactHasNearUnanimityUptoSaid : Prop := fnExactHasNearUnanimityUptoRow.holds Try.pinned (OpenSpec.upto fnExactHasNearUnanimitySpec)

/-- 'laws.FnExactAreCommuting', WHERE WHAT IT READS IS OF BULK AT MOST 1048576: true; the input reads as it did. -/
def fnExactAreCommutingUptoRow : OpenClaim := { program := "ytbdhlokbpbiijab", sum := "b218f923bfd2369804c2b8da7175d448c7bca7181081deed9e35e2b0dd0fc1b0", func := "loop.example/g01323/laws.FnExactAreCommuting", spec := "fnExactAreCommuting", unfollowed := true, recurses := true, apart := false, narrowed := true }
def FnExactAreCommutingUptoSaid : Prop := fnExactAreCommutingUptoRow.holds Try.pinned (OpenSpec.upto fnExactAreCommutingSpec)

/-- 'laws.FnExactCentraliserOf', WHERE WHAT IT READS IS OF BULK AT MOST 1048576: true; the input reads as it did. -/
def fnExactCentraliserOfUptoRow : OpenClaim := { program := "ytbdhlokbpbiijab", sum := "b218f923bfd2369804c2b8da7175d448c7bca7181081deed9e35e2b0dd0fc1b0", func := "loop.example/g01323/laws.FnExactCentraliserOf", spec := "fnExactCentraliserOf", unfollowed := true, recurses := true, apart := false, narrowed := true }
def FnExactCentraliserOfUptoSaid : Prop := fnExactCentraliserOfUptoRow.holds Try.pinned (OpenSpec.upto fnExactCentraliserOfSpec)

/-- 'laws.FnExactIsAbelian', WHERE WHAT IT READS IS OF BULK AT MOST 1048576: true; the input reads as it did. -/
def fnExactIsAbelianUptoRow : OpenClaim := { program := "ytbdhlokbpbiijab", sum := "b218f923bfd2369804c2b8da7175d448c7bca7181081deed9e35e2b0dd0fc1b0", func := "loop.example/g01323/laws.FnExactIsAbelian", spec := "fnExactIsAbelian", unfollowed := true, recurses := true, apart := false, narrowed := true }
def FnExactIsAbelianUptoSaid : Prop := fnExactIsAbelianUptoRow.holds Try.pinned (OpenSpec.upto fnExactIsAbelianSpec)

/-- 'laws.FnExactKindCounts', WHERE WHAT IT READS IS OF BULK AT MOST 1048576: true; the input reads as it did. -/
def fnExactKindCountsUptoRow : OpenClaim := { program := "ytbdhlokbpbiijab", sum := "b218f923bfd2369804c2b8da7175d448c7bca7181081deed9e35e2b0dd0fc1b0", func := "loop.example/g01323/laws.FnExactKindCounts", spec := "fnExactKindCounts", unfollowed := true, recurses := true, apart := false, narrowed := true }
def FnExactKindCountsUptoSaid : Prop := fnExactKindCountsUptoRow.holds Try.pinned (OpenSpec.upto fnExactKindCountsSpec)

end Rows
end Go.Proofs.Ytbdhlokbpbiijab
