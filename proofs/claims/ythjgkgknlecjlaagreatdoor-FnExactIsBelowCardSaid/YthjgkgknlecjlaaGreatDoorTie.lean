/-
  DERIVED. GIVEN WITH THE SEED: THE PROGRAM's TIES (one call each: nine closed facts by the kernel) AND EACH ROW's TIE, after the 31st guide's Derived/Test/Toyas{Tie, Card}.lean. No idea stands in it: it is a product of the set-up. Laid BY PROGRAM, IN A SANDBOX (cutbox-door.mjs). By AI agents, Wed Nov 11 2026. No macro, syntax, notation, axiom, sorry.
-/
import Derived.Test.YthjgkgknlecjlaaGreatDoorRows
import Derived.LaidByTextLater
import Derived.SevenTiedAt
import Derived.LaidSub
import Derived.LaidOnce
namespace Go.Proofs.YthjgkgknlecjlaaGreatDoor
open Go
set_option maxRecDepth 100000
theorem seatTie1 : Tryz.prog.laidByTextLater [("unicode.White_Space", Rows.laid_unicode_White_Space), ("strings.asciiSpace", Rows.laid_strings_asciiSpace), ("loop.example/g01323/impl.errNoName", Rows.laid_loop_example_g01323_impl_errNoName)] [.listed, .data, .sentinel] true :=
  Program.laidByTextLater_by_one 52 8 257 (by kernel_rfl) (by kernel_rfl) (by kernel_rfl) (by kernel_rfl) (by kernel_rfl) (by kernel_rfl) (fun _ _ => by kernel_rfl)
theorem noOwnUnsafe : Tryz.pinned.checked.prog.headLifts.contains "ownunsafe" = false := by kernel_rfl
theorem tie : Tryz.prog.laidByTextLater [("unicode.White_Space", Rows.laid_unicode_White_Space), ("strings.asciiSpace", Rows.laid_strings_asciiSpace), ("loop.example/g01323/impl.errNoName", Rows.laid_loop_example_g01323_impl_errNoName)] [.listed, .data, .sentinel] true :=
  Program.laidByTextLater.sub seatTie1 ["unicode.White_Space", "strings.asciiSpace", "loop.example/g01323/impl.errNoName"] (by kernel_rfl) (by kernel_rfl)
theorem fnExactIsInNamed_row_tie : Rows.fnExactIsInNamedRow.laidByTextAt .later Tryz.pinned [.listed, .data, .sentinel] true :=
  OpenClaim.laidByTextAt_later rfl rfl tie noOwnUnsafe
theorem fnExactIsBelow_row_tie : Rows.fnExactIsBelowRow.laidByTextAt .later Tryz.pinned [.listed, .data, .sentinel] true :=
  OpenClaim.laidByTextAt_later rfl rfl tie noOwnUnsafe
theorem fnExactDualName_row_tie : Rows.fnExactDualNameRow.laidByTextAt .later Tryz.pinned [.listed, .data, .sentinel] true :=
  OpenClaim.laidByTextAt_later rfl rfl tie noOwnUnsafe
theorem fnExactIsInNamedUpto_row_tie : Rows.fnExactIsInNamedUptoRow.laidByTextAt .later Tryz.pinned [.listed, .data, .sentinel] true :=
  OpenClaim.laidByTextAt_later rfl rfl tie noOwnUnsafe
theorem fnExactIsBelowUpto_row_tie : Rows.fnExactIsBelowUptoRow.laidByTextAt .later Tryz.pinned [.listed, .data, .sentinel] true :=
  OpenClaim.laidByTextAt_later rfl rfl tie noOwnUnsafe
theorem fnExactDualNameUpto_row_tie : Rows.fnExactDualNameUptoRow.laidByTextAt .later Tryz.pinned [.listed, .data, .sentinel] true :=
  OpenClaim.laidByTextAt_later rfl rfl tie noOwnUnsafe
end Go.Proofs.YthjgkgknlecjlaaGreatDoor
