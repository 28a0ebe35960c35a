/-
  DERIVED. GIVEN WITH THE SEED: THE CARDS: each row of YtleighihfgabkaaDoorRows.lean that lists a variable, with what it lists TIED to the program's text (the seventh form; the later family's looks); each row that meets fmt, with fmt's text TOLD by the authors' own Lean function (tested against real Go, not proved from fmt's source: count such statements apart). THE CARD IS WHAT COUNTS. Prove the row's statement (the work); the ties are given (YtleighihfgabkaaDoorTie.lean); close each card by the builder's one call (the guide's Derived/Test/ToyasCard.lean, 'card_holds'). Laid BY PROGRAM, IN A SANDBOX (cutbox-door.mjs). By AI agents, Wed Nov 11 2026. No macro, syntax, notation, axiom, sorry.
-/
import Derived.Test.YtleighihfgabkaaDoorRows
import GoSem.ClaimSeven
namespace Go.Proofs.YtleighihfgabkaaDoor
namespace Rows

/-- THE TIED CARD OF 'laws.FnExactIsFormula'. -/
def fnExactIsFormulaCard : Claim7 := { stood := { row := fnExactIsFormulaRow, standIns := [], harness := (true, "be39ba67680edec6173a56925f40bacb72359f26c5ce7ceb32a7d100162c2cfd"), looks := true }, kinds := [], alts := [], laidByText := true, laidKinds := [.sentinel], laidTests := true, laidLooks := .later }
def FnExactIsFormulaCardSaid : Prop := Claim7.holds Tryd.pinned (.plain (OpenSpec.ofChange fnExactIsFormulaSpec)) fnExactIsFormulaCard

/-- THE TIED CARD OF 'laws.FnExactFuncOfFormula'. -/
def fnExactFuncOfFormulaCard : Claim7 := { stood := { row := fnExactFuncOfFormulaRow, standIns := [], harness := (true, "be39ba67680edec6173a56925f40bacb72359f26c5ce7ceb32a7d100162c2cfd"), looks := true }, kinds := [], alts := [], laidByText := true, laidKinds := [.sentinel], laidTests := true, laidLooks := .later }
def FnExactFuncOfFormulaCardSaid : Prop := Claim7.holds Tryd.pinned (.plain (OpenSpec.ofChange fnExactFuncOfFormulaSpec)) fnExactFuncOfFormulaCard

/-- THE TIED CARD OF 'laws.FnExactSizeOfFormula'. -/
def fnExactSizeOfFormulaCard : Claim7 := { stood := { row := fnExactSizeOfFormulaRow, standIns := [], harness := (true, "be39ba67680edec6173a56925f40bacb72359f26c5ce7ceb32a7d100162c2cfd"), looks := true }, kinds := [], alts := [], laidByText := true, laidKinds := [.sentinel], laidTests := true, laidLooks := .later }
def FnExactSizeOfFormulaCardSaid : Prop := Claim7.holds Tryd.pinned (.plain (OpenSpec.ofChange fnExactSizeOfFormulaSpec)) fnExactSizeOfFormulaCard

/-- THE TIED CARD OF 'laws.FnExactDepthOfFormula'. -/
def fnExactDepthOfFormulaCard : Claim7 := { stood := { row := fnExactDepthOfFormulaRow, standIns := [], harness := (true, "be39ba67680edec6173a56925f40bacb72359f26c5ce7ceb32a7d100162c2cfd"), looks := true }, kinds := [], alts := [], laidByText := true, laidKinds := [.sentinel], laidTests := true, laidLooks := .later }
def FnExactDepthOfFormulaCardSaid : Prop := Claim7.holds Tryd.pinned (.plain (OpenSpec.ofChange fnExactDepthOfFormulaSpec)) fnExactDepthOfFormulaCard

/-- THE TIED CARD OF 'laws.FnExactVariablesOfFormula'. -/
def fnExactVariablesOfFormulaCard : Claim7 := { stood := { row := fnExactVariablesOfFormulaRow, standIns := [], harness := (true, "be39ba67680edec6173a56925f40bacb72359f26c5ce7ceb32a7d100162c2cfd"), looks := true }, kinds := [], alts := [], laidByText := true, laidKinds := [.sentinel], laidTests := true, laidLooks := .later }
def FnExactVariablesOfFormulaCardSaid : Prop := Claim7.holds Tryd.pinned (.plain (OpenSpec.ofChange fnExactVariablesOfFormulaSpec)) fnExactVariablesOfFormulaCard

/-- THE TIED CARD OF 'laws.FnExactDualFormula'. -/
def fnExactDualFormulaCard : Claim7 := { stood := { row := fnExactDualFormulaRow, standIns := [], harness := (true, "be39ba67680edec6173a56925f40bacb72359f26c5ce7ceb32a7d100162c2cfd"), looks := true }, kinds := [], alts := [], laidByText := true, laidKinds := [.sentinel], laidTests := true, laidLooks := .later }
def FnExactDualFormulaCardSaid : Prop := Claim7.holds Tryd.pinned (.plain (OpenSpec.ofChange fnExactDualFormulaSpec)) fnExactDualFormulaCard

/-- THE TIED CARD OF 'laws.FnExactPutFormulas'. -/
def fnExactPutFormulasCard : Claim7 := { stood := { row := fnExactPutFormulasRow, standIns := [], harness := (true, "be39ba67680edec6173a56925f40bacb72359f26c5ce7ceb32a7d100162c2cfd"), looks := true }, kinds := [], alts := [], laidByText := true, laidKinds := [.sentinel], laidTests := true, laidLooks := .later }
def FnExactPutFormulasCardSaid : Prop := Claim7.holds Tryd.pinned (.plain (OpenSpec.ofChange fnExactPutFormulasSpec)) fnExactPutFormulasCard

/-- THE TIED CARD OF 'laws.FnExactPartsOfFormula'. -/
def fnExactPartsOfFormulaCard : Claim7 := { stood := { row := fnExactPartsOfFormulaRow, standIns := [], harness := (true, "be39ba67680edec6173a56925f40bacb72359f26c5ce7ceb32a7d100162c2cfd"), looks := true }, kinds := [], alts := [], laidByText := true, laidKinds := [.sentinel], laidTests := true, laidLooks := .later }
def FnExactPartsOfFormulaCardSaid : Prop := Claim7.holds Tryd.pinned (.plain (OpenSpec.ofChange fnExactPartsOfFormulaSpec)) fnExactPartsOfFormulaCard

/-- THE TIED CARD OF 'laws.FnExactLeastSizeOf'. -/
def fnExactLeastSizeOfCard : Claim7 := { stood := { row := fnExactLeastSizeOfRow, standIns := [], harness := (true, "be39ba67680edec6173a56925f40bacb72359f26c5ce7ceb32a7d100162c2cfd"), looks := true }, kinds := [], alts := [], laidByText := true, laidKinds := [.sentinel], laidTests := true, laidLooks := .later }
def FnExactLeastSizeOfCardSaid : Prop := Claim7.holds Tryd.pinned (.plain (OpenSpec.ofChange fnExactLeastSizeOfSpec)) fnExactLeastSizeOfCard

/-- THE TIED CARD OF 'laws.FnExactSizeNumbers'. -/
def fnExactSizeNumbersCard : Claim7 := { stood := { row := fnExactSizeNumbersRow, standIns := [], harness := (true, "be39ba67680edec6173a56925f40bacb72359f26c5ce7ceb32a7d100162c2cfd"), looks := true }, kinds := [], alts := [], laidByText := true, laidKinds := [.sentinel], laidTests := true, laidLooks := .later }
def FnExactSizeNumbersCardSaid : Prop := Claim7.holds Tryd.pinned (.plain (OpenSpec.ofChange fnExactSizeNumbersSpec)) fnExactSizeNumbersCard

/-- THE SECOND FORM's CARD OF 'laws.FnExactIsFormula'. -/
def fnExactIsFormulaUptoCard : Claim7 := { stood := { row := fnExactIsFormulaUptoRow, standIns := [], harness := (true, "be39ba67680edec6173a56925f40bacb72359f26c5ce7ceb32a7d100162c2cfd"), looks := true }, kinds := [], alts := [], laidByText := true, laidKinds := [.sentinel], laidTests := true, laidLooks := .later }
def FnExactIsFormulaUptoCardSaid : Prop := Claim7.holds Tryd.pinned (.plain (OpenSpec.upto fnExactIsFormulaSpec)) fnExactIsFormulaUptoCard

/-- THE SECOND FORM's CARD OF 'laws.FnExactFuncOfFormula'. -/
def fnExactFuncOfFormulaUptoCard : Claim7 := { stood := { row := fnExactFuncOfFormulaUptoRow, standIns := [], harness := (true, "be39ba67680edec6173a56925f40bacb72359f26c5ce7ceb32a7d100162c2cfd"), looks := true }, kinds := [], alts := [], laidByText := true, laidKinds := [.sentinel], laidTests := true, laidLooks := .later }
def FnExactFuncOfFormulaUptoCardSaid : Prop := Claim7.holds Tryd.pinned (.plain (OpenSpec.upto fnExactFuncOfFormulaSpec)) fnExactFuncOfFormulaUptoCard

/-- THE SECOND FORM's CARD OF 'laws.FnExactSizeOfFormula'. -/
def fnExactSizeOfFormulaUptoCard : Claim7 := { stood := { row := fnExactSizeOfFormulaUptoRow, standIns := [], harness := (true, "be39ba67680edec6173a56925f40bacb72359f26c5ce7ceb32a7d100162c2cfd"), looks := true }, kinds := [], alts := [], laidByText := true, laidKinds := [.sentinel], laidTests := true, laidLooks := .later }
def FnExactSizeOfFormulaUptoCardSaid : Prop := Claim7.holds Tryd.pinned (.plain (OpenSpec.upto fnExactSizeOfFormulaSpec)) fnExactSizeOfFormulaUptoCard

/-- THE SECOND FORM's CARD OF 'laws.FnExactDepthOfFormula'. -/
def fnExactDepthOfFormulaUptoCard : Claim7 := { stood := { row := fnExactDepthOfFormulaUptoRow, standIns := [], harness := (true, "be39ba67680edec6173a56925f40bacb72359f26c5ce7ceb32a7d100162c2cfd"), looks := true }, kinds := [], alts := [], laidByText := true, laidKinds := [.sentinel], laidTests := true, laidLooks := .later }
def FnExactDepthOfFormulaUptoCardSaid : Prop := Claim7.holds Tryd.pinned (.plain (OpenSpec.upto fnExactDepthOfFormulaSpec)) fnExactDepthOfFormulaUptoCard

/-- THE SECOND FORM's CARD OF 'laws.FnExactVariablesOfFormula'. -/
def fnExactVariablesOfFormulaUptoCard : Claim7 := { stood := { row := fnExactVariablesOfFormulaUptoRow, standIns := [], harness := (true, "be39ba67680edec6173a56925f40bacb72359f26c5ce7ceb32a7d100162c2cfd"), looks := true }, kinds := [], alts := [], laidByText := true, laidKinds := [.sentinel], laidTests := true, laidLooks := .later }
def FnExactVariablesOfFormulaUptoCardSaid : Prop := Claim7.holds Tryd.pinned (.plain (OpenSpec.upto fnExactVariablesOfFormulaSpec)) fnExactVariablesOfFormulaUptoCard

/-- THE SECOND FORM's CARD OF 'laws.FnExactDualFormula'. -/
def fnExactDualFormulaUptoCard : Claim7 := { stood := { row := fnExactDualFormulaUptoRow, standIns := [], harness := (true, "be39ba67680edec6173a56925f40bacb72359f26c5ce7ceb32a7d100162c2cfd"), looks := true }, kinds := [], alts := [], laidByText := true, laidKinds := [.sentinel], laidTests := true, laidLooks := .later }
def FnExactDualFormulaUptoCardSaid : Prop := Claim7.holds Tryd.pinned (.plain (OpenSpec.upto fnExactDualFormulaSpec)) fnExactDualFormulaUptoCard

/-- THE SECOND FORM's CARD OF 'laws.FnExactPutFormulas'. -/
def fnExactPutFormulasUptoCard : Claim7 := { stood := { row := fnExactPutFormulasUptoRow, standIns := [], harness := (true, "be39ba67680edec6173a56925f40bacb72359f26c5ce7ceb32a7d100162c2cfd"), looks := true }, kinds := [], alts := [], laidByText := true, laidKinds := [.sentinel], laidTests := true, laidLooks := .later }
def FnExactPutFormulasUptoCardSaid : Prop := Claim7.holds Tryd.pinned (.plain (OpenSpec.upto fnExactPutFormulasSpec)) fnExactPutFormulasUptoCard

/-- THE SECOND FORM's CARD OF 'laws.FnExactPartsOfFormula'. -/
def fnExactPartsOfFormulaUptoCard : Claim7 := { stood := { row := fnExactPartsOfFormulaUptoRow, standIns := [], harness := (true, "be39ba67680edec6173a56925f40bacb72359f26c5ce7ceb32a7d100162c2cfd"), looks := true }, kinds := [], alts := [], laidByText := true, laidKinds := [.sentinel], laidTests := true, laidLooks := .later }
def FnExactPartsOfFormulaUptoCardSaid : Prop := Claim7.holds Tryd.pinned (.plain (OpenSpec.upto fnExactPartsOfFormulaSpec)) fnExactPartsOfFormulaUptoCard

/-- THE SECOND FORM's CARD OF 'laws.FnExactLeastSizeOf'. -/
def fnExactLeastSizeOfUptoCard : Claim7 := { stood := { row := fnExactLeastSizeOfUptoRow, standIns := [], harness := (true, "be39ba67680edec6173a56925f40bacb72359f26c5ce7ceb32a7d100162c2cfd"), looks := true }, kinds := [], alts := [], laidByText := true, laidKinds := [.sentinel], laidTests := true, laidLooks := .later }
def FnExactLeastSizeOfUptoCardSaid : Prop := Claim7.holds Tryd.pinned (.plain (OpenSpec.upto fnExactLeastSizeOfSpec)) fnExactLeastSizeOfUptoCard

/-- THE SECOND FORM's CARD OF 'laws.FnExactSizeNumbers'. -/
def fnExactSizeNumbersUptoCard : Claim7 := { stood := { row := fnExactSizeNumbersUptoRow, standIns := [], harness := (true, "be39ba67680edec6173a56925f40bacb72359f26c5ce7ceb32a7d100162c2cfd"), looks := true }, kinds := [], alts := [], laidByText := true, laidKinds := [.sentinel], laidTests := true, laidLooks := .later }
def FnExactSizeNumbersUptoCardSaid : Prop := Claim7.holds Tryd.pinned (.plain (OpenSpec.upto fnExactSizeNumbersSpec)) fnExactSizeNumbersUptoCard
end Rows
end Go.Proofs.YtleighihfgabkaaDoor
