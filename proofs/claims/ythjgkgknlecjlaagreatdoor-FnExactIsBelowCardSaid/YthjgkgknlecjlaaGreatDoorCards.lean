/-
  DERIVED. GIVEN WITH THE SEED: THE CARDS: each row of YthjgkgknlecjlaaGreatDoorRows.lean that lists a variable, with what it lists TIED to the program's text (the seventh form; the later family's looks); each row that meets fmt, with fmt's text TOLD by the authors' own Lean function (tested against real Go, not proved from fmt's source: count such statements apart). THE CARD IS WHAT COUNTS. Prove the row's statement (the work); the ties are given (YthjgkgknlecjlaaGreatDoorTie.lean); close each card by the builder's one call (the guide's Derived/Test/ToyasCard.lean, 'card_holds'). Laid BY PROGRAM, IN A SANDBOX (cutbox-door.mjs). By AI agents, Wed Nov 11 2026. No macro, syntax, notation, axiom, sorry.
-/
import Derived.Test.YthjgkgknlecjlaaGreatDoorRows
import GoSem.ClaimSeven
namespace Go.Proofs.YthjgkgknlecjlaaGreatDoor
namespace Rows

/-- THE TIED CARD OF 'laws.FnExactIsInNamed'. -/
def fnExactIsInNamedCard : Claim7 := { stood := { row := fnExactIsInNamedRow, standIns := [], harness := (true, "9ec33070ac80eaeed5c0bbcc9f65300cdfbeb18552a2730e16774abb9b10a3be"), looks := true }, kinds := [], alts := [], laidByText := true, laidKinds := [.listed, .data, .sentinel], laidTests := true, laidLooks := .later }
def FnExactIsInNamedCardSaid : Prop := Claim7.holds Tryz.pinned (.plain (OpenSpec.ofChange fnExactIsInNamedSpec)) fnExactIsInNamedCard

/-- THE TIED CARD OF 'laws.FnExactIsBelow'. -/
def fnExactIsBelowCard : Claim7 := { stood := { row := fnExactIsBelowRow, standIns := [], harness := (true, "9ec33070ac80eaeed5c0bbcc9f65300cdfbeb18552a2730e16774abb9b10a3be"), looks := true }, kinds := [], alts := [], laidByText := true, laidKinds := [.listed, .data, .sentinel], laidTests := true, laidLooks := .later }
def FnExactIsBelowCardSaid : Prop := Claim7.holds Tryz.pinned (.plain (OpenSpec.ofChange fnExactIsBelowSpec)) fnExactIsBelowCard

/-- THE TIED CARD OF 'laws.FnExactDualName'. -/
def fnExactDualNameCard : Claim7 := { stood := { row := fnExactDualNameRow, standIns := [], harness := (true, "9ec33070ac80eaeed5c0bbcc9f65300cdfbeb18552a2730e16774abb9b10a3be"), looks := true }, kinds := [], alts := [], laidByText := true, laidKinds := [.listed, .data, .sentinel], laidTests := true, laidLooks := .later }
def FnExactDualNameCardSaid : Prop := Claim7.holds Tryz.pinned (.plain (OpenSpec.ofChange fnExactDualNameSpec)) fnExactDualNameCard

/-- THE SECOND FORM's CARD OF 'laws.FnExactIsInNamed'. -/
def fnExactIsInNamedUptoCard : Claim7 := { stood := { row := fnExactIsInNamedUptoRow, standIns := [], harness := (true, "9ec33070ac80eaeed5c0bbcc9f65300cdfbeb18552a2730e16774abb9b10a3be"), looks := true }, kinds := [], alts := [], laidByText := true, laidKinds := [.listed, .data, .sentinel], laidTests := true, laidLooks := .later }
def FnExactIsInNamedUptoCardSaid : Prop := Claim7.holds Tryz.pinned (.plain (OpenSpec.upto fnExactIsInNamedSpec)) fnExactIsInNamedUptoCard

/-- THE SECOND FORM's CARD OF 'laws.FnExactIsBelow'. -/
def fnExactIsBelowUptoCard : Claim7 := { stood := { row := fnExactIsBelowUptoRow, standIns := [], harness := (true, "9ec33070ac80eaeed5c0bbcc9f65300cdfbeb18552a2730e16774abb9b10a3be"), looks := true }, kinds := [], alts := [], laidByText := true, laidKinds := [.listed, .data, .sentinel], laidTests := true, laidLooks := .later }
def FnExactIsBelowUptoCardSaid : Prop := Claim7.holds Tryz.pinned (.plain (OpenSpec.upto fnExactIsBelowSpec)) fnExactIsBelowUptoCard

/-- THE SECOND FORM's CARD OF 'laws.FnExactDualName'. -/
def fnExactDualNameUptoCard : Claim7 := { stood := { row := fnExactDualNameUptoRow, standIns := [], harness := (true, "9ec33070ac80eaeed5c0bbcc9f65300cdfbeb18552a2730e16774abb9b10a3be"), looks := true }, kinds := [], alts := [], laidByText := true, laidKinds := [.listed, .data, .sentinel], laidTests := true, laidLooks := .later }
def FnExactDualNameUptoCardSaid : Prop := Claim7.holds Tryz.pinned (.plain (OpenSpec.upto fnExactDualNameSpec)) fnExactDualNameUptoCard
end Rows
end Go.Proofs.YthjgkgknlecjlaaGreatDoor
