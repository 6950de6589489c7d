/-
  DERIVED. GIVEN WITH THE SEED: THE CARDS: each row of YthonbfojpbfmgaaGreatDoorRows.lean that lists a variable, with what it lists TIED to the program's text (the seventh form; the later family's looks); each row that meets fmt, with fmt's text TOLD by the authors' own Lean function (tested against real Go, not proved from fmt's source: count such statements apart). THE CARD IS WHAT COUNTS. Prove the row's statement (the work); the ties are given (YthonbfojpbfmgaaGreatDoorTie.lean); close each card by the builder's one call (the guide's Derived/Test/ToyasCard.lean, 'card_holds'). Laid BY PROGRAM, IN A SANDBOX (cutbox-door.mjs). By AI agents, Wed Nov 11 2026. No macro, syntax, notation, axiom, sorry.
-/
import Derived.Test.YthonbfojpbfmgaaGreatDoorRows
import GoSem.ClaimSeven
namespace Go.Proofs.YthonbfojpbfmgaaGreatDoor
namespace Rows

/-- THE TIED CARD OF 'colscanlaw.LawFilter'. -/
def lawFilterCard : Claim7 := { stood := { row := lawFilterRow, standIns := [], harness := (true, "003b31001524a3112fd97e48b4d84b9797d11e4aaf24b0dbe8937b6310e0f43d"), looks := false }, kinds := [], alts := [], laidByText := true, laidKinds := [.data], laidTests := true, laidLooks := .later }
def LawFilterCardSaid : Prop := Claim7.holds Tryz.pinned (.plain (OpenSpec.ofChange lawFilterSpec)) lawFilterCard

/-- THE TIED CARD OF 'colscanlaw.LawFold'. -/
def lawFoldCard : Claim7 := { stood := { row := lawFoldRow, standIns := [], harness := (true, "003b31001524a3112fd97e48b4d84b9797d11e4aaf24b0dbe8937b6310e0f43d"), looks := false }, kinds := [], alts := [], laidByText := true, laidKinds := [.data], laidTests := true, laidLooks := .later }
def LawFoldCardSaid : Prop := Claim7.holds Tryz.pinned (.plain (OpenSpec.ofChange lawFoldSpec)) lawFoldCard

/-- THE TIED CARD OF 'colscanlaw.LawFoldSplit'. -/
def lawFoldSplitCard : Claim7 := { stood := { row := lawFoldSplitRow, standIns := [], harness := (true, "003b31001524a3112fd97e48b4d84b9797d11e4aaf24b0dbe8937b6310e0f43d"), looks := false }, kinds := [], alts := [], laidByText := true, laidKinds := [.data], laidTests := true, laidLooks := .later }
def LawFoldSplitCardSaid : Prop := Claim7.holds Tryz.pinned (.plain (OpenSpec.ofChange lawFoldSplitSpec)) lawFoldSplitCard

/-- THE TIED CARD OF 'colscanlaw.LawKernel'. -/
def lawKernelCard : Claim7 := { stood := { row := lawKernelRow, standIns := [], harness := (true, "003b31001524a3112fd97e48b4d84b9797d11e4aaf24b0dbe8937b6310e0f43d"), looks := false }, kinds := [], alts := [], laidByText := true, laidKinds := [.data], laidTests := true, laidLooks := .later }
def LawKernelCardSaid : Prop := Claim7.holds Tryz.pinned (.plain (OpenSpec.ofChange lawKernelSpec)) lawKernelCard

/-- THE SECOND FORM's CARD OF 'colscanlaw.LawFilter'. -/
def lawFilterUptoCard : Claim7 := { stood := { row := lawFilterUptoRow, standIns := [], harness := (true, "003b31001524a3112fd97e48b4d84b9797d11e4aaf24b0dbe8937b6310e0f43d"), looks := false }, kinds := [], alts := [], laidByText := true, laidKinds := [.data], laidTests := true, laidLooks := .later }
def LawFilterUptoCardSaid : Prop := Claim7.holds Tryz.pinned (.plain (OpenSpec.upto lawFilterSpec)) lawFilterUptoCard

/-- THE SECOND FORM's CARD OF 'colscanlaw.LawFold'. -/
def lawFoldUptoCard : Claim7 := { stood := { row := lawFoldUptoRow, standIns := [], harness := (true, "003b31001524a3112fd97e48b4d84b9797d11e4aaf24b0dbe8937b6310e0f43d"), looks := false }, kinds := [], alts := [], laidByText := true, laidKinds := [.data], laidTests := true, laidLooks := .later }
def LawFoldUptoCardSaid : Prop := Claim7.holds Tryz.pinned (.plain (OpenSpec.upto lawFoldSpec)) lawFoldUptoCard

/-- THE SECOND FORM's CARD OF 'colscanlaw.LawFoldSplit'. -/
def lawFoldSplitUptoCard : Claim7 := { stood := { row := lawFoldSplitUptoRow, standIns := [], harness := (true, "003b31001524a3112fd97e48b4d84b9797d11e4aaf24b0dbe8937b6310e0f43d"), looks := false }, kinds := [], alts := [], laidByText := true, laidKinds := [.data], laidTests := true, laidLooks := .later }
def LawFoldSplitUptoCardSaid : Prop := Claim7.holds Tryz.pinned (.plain (OpenSpec.upto lawFoldSplitSpec)) lawFoldSplitUptoCard

/-- THE SECOND FORM's CARD OF 'colscanlaw.LawKernel'. -/
def lawKernelUptoCard : Claim7 := { stood := { row := lawKernelUptoRow, standIns := [], harness := (true, "003b31001524a3112fd97e48b4d84b9797d11e4aaf24b0dbe8937b6310e0f43d"), looks := false }, kinds := [], alts := [], laidByText := true, laidKinds := [.data], laidTests := true, laidLooks := .later }
def LawKernelUptoCardSaid : Prop := Claim7.holds Tryz.pinned (.plain (OpenSpec.upto lawKernelSpec)) lawKernelUptoCard
end Rows
end Go.Proofs.YthonbfojpbfmgaaGreatDoor
