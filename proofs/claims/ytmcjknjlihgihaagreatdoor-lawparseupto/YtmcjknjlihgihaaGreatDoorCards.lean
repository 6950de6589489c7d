/-
  DERIVED. GIVEN WITH THE SEED: THE CARDS: each row of YtmcjknjlihgihaaGreatDoorRows.lean that lists a variable, with what it lists TIED to the program's text (the seventh form; the later family's looks); each row that meets fmt, with fmt's text TOLD by the authors' own Lean function (tested against real Go, not proved from fmt's source: count such statements apart). THE CARD IS WHAT COUNTS. Prove the row's statement (the work); the ties are given (YtmcjknjlihgihaaGreatDoorTie.lean); close each card by the builder's one call (the guide's Derived/Test/ToyasCard.lean, 'card_holds'). Laid BY PROGRAM, IN A SANDBOX (cutbox-door.mjs). By AI agents, Wed Nov 11 2026. No macro, syntax, notation, axiom, sorry.
-/
import Derived.Test.YtmcjknjlihgihaaGreatDoorRows
import GoSem.ClaimSeven
namespace Go.Proofs.YtmcjknjlihgihaaGreatDoor
namespace Rows

/-- THE TIED CARD OF 'colscanlaw.LawFreshLists'. -/
def lawFreshListsCard : Claim7 := { stood := { row := lawFreshListsRow, standIns := [], harness := (true, "89ad450b007976c0e3ea2405bcd19b8c90b80c2489454929b145bee2fe41af83"), looks := false }, kinds := [], alts := [], laidByText := true, laidKinds := [.data, .data], laidTests := true, laidLooks := .later }
def LawFreshListsCardSaid : Prop := Claim7.holds Tryz.pinned (.plain (OpenSpec.ofChange lawFreshListsSpec)) lawFreshListsCard

/-- THE TIED CARD OF 'colscanlaw.LawParse'. -/
def lawParseCard : Claim7 := { stood := { row := lawParseRow, standIns := [], harness := (true, "89ad450b007976c0e3ea2405bcd19b8c90b80c2489454929b145bee2fe41af83"), looks := false }, kinds := [], alts := [], laidByText := true, laidKinds := [.data, .data], laidTests := true, laidLooks := .later }
def LawParseCardSaid : Prop := Claim7.holds Tryz.pinned (.plain (OpenSpec.ofChange lawParseSpec)) lawParseCard

/-- THE TIED CARD OF 'colscanlaw.LawWriteRead'. -/
def lawWriteReadCard : Claim7 := { stood := { row := lawWriteReadRow, standIns := [], harness := (true, "89ad450b007976c0e3ea2405bcd19b8c90b80c2489454929b145bee2fe41af83"), looks := false }, kinds := [], alts := [], laidByText := true, laidKinds := [.data, .data], laidTests := true, laidLooks := .later }
def LawWriteReadCardSaid : Prop := Claim7.holds Tryz.pinned (.plain (OpenSpec.ofChange lawWriteReadSpec)) lawWriteReadCard

/-- THE SECOND FORM's CARD OF 'colscanlaw.LawFreshLists'. -/
def lawFreshListsUptoCard : Claim7 := { stood := { row := lawFreshListsUptoRow, standIns := [], harness := (true, "89ad450b007976c0e3ea2405bcd19b8c90b80c2489454929b145bee2fe41af83"), looks := false }, kinds := [], alts := [], laidByText := true, laidKinds := [.data, .data], laidTests := true, laidLooks := .later }
def LawFreshListsUptoCardSaid : Prop := Claim7.holds Tryz.pinned (.plain (OpenSpec.upto lawFreshListsSpec)) lawFreshListsUptoCard

/-- THE SECOND FORM's CARD OF 'colscanlaw.LawParse'. -/
def lawParseUptoCard : Claim7 := { stood := { row := lawParseUptoRow, standIns := [], harness := (true, "89ad450b007976c0e3ea2405bcd19b8c90b80c2489454929b145bee2fe41af83"), looks := false }, kinds := [], alts := [], laidByText := true, laidKinds := [.data, .data], laidTests := true, laidLooks := .later }
def LawParseUptoCardSaid : Prop := Claim7.holds Tryz.pinned (.plain (OpenSpec.upto lawParseSpec)) lawParseUptoCard

/-- THE SECOND FORM's CARD OF 'colscanlaw.LawWriteRead'. -/
def lawWriteReadUptoCard : Claim7 := { stood := { row := lawWriteReadUptoRow, standIns := [], harness := (true, "89ad450b007976c0e3ea2405bcd19b8c90b80c2489454929b145bee2fe41af83"), looks := false }, kinds := [], alts := [], laidByText := true, laidKinds := [.data, .data], laidTests := true, laidLooks := .later }
def LawWriteReadUptoCardSaid : Prop := Claim7.holds Tryz.pinned (.plain (OpenSpec.upto lawWriteReadSpec)) lawWriteReadUptoCard
end Rows
end Go.Proofs.YtmcjknjlihgihaaGreatDoor
