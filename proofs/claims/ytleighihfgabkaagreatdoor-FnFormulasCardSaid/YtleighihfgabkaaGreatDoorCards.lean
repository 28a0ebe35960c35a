/-
  DERIVED. GIVEN WITH THE SEED: THE CARDS: each row of YtleighihfgabkaaGreatDoorRows.lean that lists a variable, with what it lists TIED to the program's text (the seventh form; the later family's looks); each row that meets fmt, with fmt's text TOLD by the authors' own Lean function (tested against real Go, not proved from fmt's source: count such statements apart). THE CARD IS WHAT COUNTS. Prove the row's statement (the work); the ties are given (YtleighihfgabkaaGreatDoorTie.lean); close each card by the builder's one call (the guide's Derived/Test/ToyasCard.lean, 'card_holds'). Laid BY PROGRAM, IN A SANDBOX (cutbox-door.mjs). By AI agents, Wed Nov 11 2026. No macro, syntax, notation, axiom, sorry.
-/
import Derived.Test.YtleighihfgabkaaGreatDoorRows
import GoSem.ClaimSeven
namespace Go.Proofs.YtleighihfgabkaaGreatDoor
namespace Rows

/-- THE TIED CARD OF 'laws.FnFormulas'. -/
def fnFormulasCard : Claim7 := { stood := { row := fnFormulasRow, standIns := [], harness := (true, "4d26b40d0be5a46146ed47fa6fc82ed18924a66f1466436cbb1cd926be398a70"), looks := true }, kinds := [], alts := [], laidByText := true, laidKinds := [.sentinel], laidTests := true, laidLooks := .later }
def FnFormulasCardSaid : Prop := Claim7.holds Tryz.pinned (.plain (OpenSpec.ofChange fnFormulasSpec)) fnFormulasCard

/-- THE TIED CARD OF 'laws.FnSizes'. -/
def fnSizesCard : Claim7 := { stood := { row := fnSizesRow, standIns := [], harness := (true, "4d26b40d0be5a46146ed47fa6fc82ed18924a66f1466436cbb1cd926be398a70"), looks := true }, kinds := [], alts := [], laidByText := true, laidKinds := [.sentinel], laidTests := true, laidLooks := .later }
def FnSizesCardSaid : Prop := Claim7.holds Tryz.pinned (.plain (OpenSpec.ofChange fnSizesSpec)) fnSizesCard

/-- THE SECOND FORM's CARD OF 'laws.FnFormulas'. -/
def fnFormulasUptoCard : Claim7 := { stood := { row := fnFormulasUptoRow, standIns := [], harness := (true, "4d26b40d0be5a46146ed47fa6fc82ed18924a66f1466436cbb1cd926be398a70"), looks := true }, kinds := [], alts := [], laidByText := true, laidKinds := [.sentinel], laidTests := true, laidLooks := .later }
def FnFormulasUptoCardSaid : Prop := Claim7.holds Tryz.pinned (.plain (OpenSpec.upto fnFormulasSpec)) fnFormulasUptoCard

/-- THE SECOND FORM's CARD OF 'laws.FnSizes'. -/
def fnSizesUptoCard : Claim7 := { stood := { row := fnSizesUptoRow, standIns := [], harness := (true, "4d26b40d0be5a46146ed47fa6fc82ed18924a66f1466436cbb1cd926be398a70"), looks := true }, kinds := [], alts := [], laidByText := true, laidKinds := [.sentinel], laidTests := true, laidLooks := .later }
def FnSizesUptoCardSaid : Prop := Claim7.holds Tryz.pinned (.plain (OpenSpec.upto fnSizesSpec)) fnSizesUptoCard
end Rows
end Go.Proofs.YtleighihfgabkaaGreatDoor
