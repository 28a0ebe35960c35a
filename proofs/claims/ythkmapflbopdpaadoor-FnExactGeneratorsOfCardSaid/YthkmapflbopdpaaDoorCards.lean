/-
  DERIVED. GIVEN WITH THE SEED: THE CARDS: each row of YthkmapflbopdpaaDoorRows.lean that lists a variable, with what it lists TIED to the program's text (the seventh form; the later family's looks); each row that meets fmt, with fmt's text TOLD by the authors' own Lean function (tested against real Go, not proved from fmt's source: count such statements apart). THE CARD IS WHAT COUNTS. Prove the row's statement (the work); the ties are given (YthkmapflbopdpaaDoorTie.lean); close each card by the builder's one call (the guide's Derived/Test/ToyasCard.lean, 'card_holds'). Laid BY PROGRAM, IN A SANDBOX (cutbox-door.mjs). By AI agents, Wed Nov 11 2026. No macro, syntax, notation, axiom, sorry.
-/
import Derived.Test.YthkmapflbopdpaaDoorRows
import GoSem.ClaimSeven
namespace Go.Proofs.YthkmapflbopdpaaDoor
namespace Rows

/-- THE TIED CARD OF 'laws.FnExactGeneratorsOf'. -/
def fnExactGeneratorsOfCard : Claim7 := { stood := { row := fnExactGeneratorsOfRow, standIns := [], harness := (true, "f87fe01e0754a88ba259be9c34080073a55f5e8bc285135f197d2d53fd2fb58d"), looks := true }, kinds := [], alts := [], laidByText := true, laidKinds := [.listed, .data, .sentinel], laidTests := true, laidLooks := .later }
def FnExactGeneratorsOfCardSaid : Prop := Claim7.holds Tryd.pinned (.plain (OpenSpec.ofChange fnExactGeneratorsOfSpec)) fnExactGeneratorsOfCard

/-- THE SECOND FORM's CARD OF 'laws.FnExactGeneratorsOf'. -/
def fnExactGeneratorsOfUptoCard : Claim7 := { stood := { row := fnExactGeneratorsOfUptoRow, standIns := [], harness := (true, "f87fe01e0754a88ba259be9c34080073a55f5e8bc285135f197d2d53fd2fb58d"), looks := true }, kinds := [], alts := [], laidByText := true, laidKinds := [.listed, .data, .sentinel], laidTests := true, laidLooks := .later }
def FnExactGeneratorsOfUptoCardSaid : Prop := Claim7.holds Tryd.pinned (.plain (OpenSpec.upto fnExactGeneratorsOfSpec)) fnExactGeneratorsOfUptoCard
end Rows
end Go.Proofs.YthkmapflbopdpaaDoor
