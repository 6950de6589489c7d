/-
  DERIVED. GIVEN WITH THE SEED: THE CARDS: each row of YtklkcagobnkbdabDoorRows.lean that lists a variable, with what it lists TIED to the program's text (the seventh form; the later family's looks); each row that meets fmt, with fmt's text TOLD by the authors' own Lean function (tested against real Go, not proved from fmt's source: count such statements apart). THE CARD IS WHAT COUNTS. Prove the row's statement (the work); the ties are given (YtklkcagobnkbdabDoorTie.lean); close each card by the builder's one call (the guide's Derived/Test/ToyasCard.lean, 'card_holds'). Laid BY PROGRAM, IN A SANDBOX (cutbox-door.mjs). By AI agents, Wed Nov 11 2026. No macro, syntax, notation, axiom, sorry.
-/
import Derived.Test.YtklkcagobnkbdabDoorRows
import GoSem.ClaimSeven
namespace Go.Proofs.YtklkcagobnkbdabDoor
namespace Rows

/-- THE TIED CARD OF 'colscanlaw.LawSelect'. -/
def lawSelectCard : Claim7 := { stood := { row := lawSelectRow, standIns := [], harness := (true, "c81e1d81ecc3074e64b6036378b571c8fa06451dbd91467adc8dd6206093494d"), looks := false }, kinds := [], alts := [], laidByText := true, laidKinds := [.data], laidTests := true, laidLooks := .later }
def LawSelectCardSaid : Prop := Claim7.holds Tryd.pinned (.plain (OpenSpec.ofChange lawSelectSpec)) lawSelectCard

/-- THE SECOND FORM's CARD OF 'colscanlaw.LawSelect'. -/
def lawSelectUptoCard : Claim7 := { stood := { row := lawSelectUptoRow, standIns := [], harness := (true, "c81e1d81ecc3074e64b6036378b571c8fa06451dbd91467adc8dd6206093494d"), looks := false }, kinds := [], alts := [], laidByText := true, laidKinds := [.data], laidTests := true, laidLooks := .later }
def LawSelectUptoCardSaid : Prop := Claim7.holds Tryd.pinned (.plain (OpenSpec.upto lawSelectSpec)) lawSelectUptoCard
end Rows
end Go.Proofs.YtklkcagobnkbdabDoor
