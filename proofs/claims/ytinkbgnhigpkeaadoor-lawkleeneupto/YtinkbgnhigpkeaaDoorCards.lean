/-
  DERIVED. GIVEN WITH THE SEED: THE CARDS: each row of YtinkbgnhigpkeaaDoorRows.lean that lists a variable, with what it lists TIED to the program's text (the seventh form; the later family's looks); each row that meets fmt, with fmt's text TOLD by the authors' own Lean function (tested against real Go, not proved from fmt's source: count such statements apart). THE CARD IS WHAT COUNTS. Prove the row's statement (the work); the ties are given (YtinkbgnhigpkeaaDoorTie.lean); close each card by the builder's one call (the guide's Derived/Test/ToyasCard.lean, 'card_holds'). Laid BY PROGRAM, IN A SANDBOX (cutbox-door.mjs). By AI agents, Wed Nov 11 2026. No macro, syntax, notation, axiom, sorry.
-/
import Derived.Test.YtinkbgnhigpkeaaDoorRows
import GoSem.ClaimSeven
namespace Go.Proofs.YtinkbgnhigpkeaaDoor
namespace Rows

/-- THE TIED CARD OF 'colscanlaw.LawKleene'. -/
def lawKleeneCard : Claim7 := { stood := { row := lawKleeneRow, standIns := [], harness := (true, "c6379b082ab7a3a908cb93878d58f3f11dae438517e06d31202e5961bf271c2c"), looks := false }, kinds := [], alts := [], laidByText := true, laidKinds := [.data], laidTests := true, laidLooks := .later }
def LawKleeneCardSaid : Prop := Claim7.holds Tryd.pinned (.plain (OpenSpec.ofChange lawKleeneSpec)) lawKleeneCard

/-- THE TIED CARD OF 'colscanlaw.LawSelect'. -/
def lawSelectCard : Claim7 := { stood := { row := lawSelectRow, standIns := [], harness := (true, "c6379b082ab7a3a908cb93878d58f3f11dae438517e06d31202e5961bf271c2c"), looks := false }, kinds := [], alts := [], laidByText := true, laidKinds := [.data], laidTests := true, laidLooks := .later }
def LawSelectCardSaid : Prop := Claim7.holds Tryd.pinned (.plain (OpenSpec.ofChange lawSelectSpec)) lawSelectCard

/-- THE SECOND FORM's CARD OF 'colscanlaw.LawKleene'. -/
def lawKleeneUptoCard : Claim7 := { stood := { row := lawKleeneUptoRow, standIns := [], harness := (true, "c6379b082ab7a3a908cb93878d58f3f11dae438517e06d31202e5961bf271c2c"), looks := false }, kinds := [], alts := [], laidByText := true, laidKinds := [.data], laidTests := true, laidLooks := .later }
def LawKleeneUptoCardSaid : Prop := Claim7.holds Tryd.pinned (.plain (OpenSpec.upto lawKleeneSpec)) lawKleeneUptoCard

/-- THE SECOND FORM's CARD OF 'colscanlaw.LawSelect'. -/
def lawSelectUptoCard : Claim7 := { stood := { row := lawSelectUptoRow, standIns := [], harness := (true, "c6379b082ab7a3a908cb93878d58f3f11dae438517e06d31202e5961bf271c2c"), looks := false }, kinds := [], alts := [], laidByText := true, laidKinds := [.data], laidTests := true, laidLooks := .later }
def LawSelectUptoCardSaid : Prop := Claim7.holds Tryd.pinned (.plain (OpenSpec.upto lawSelectSpec)) lawSelectUptoCard
end Rows
end Go.Proofs.YtinkbgnhigpkeaaDoor
