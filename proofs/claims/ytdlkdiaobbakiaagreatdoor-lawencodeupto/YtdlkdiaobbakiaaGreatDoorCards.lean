/-
  DERIVED. GIVEN WITH THE SEED: THE CARDS: each row of YtdlkdiaobbakiaaGreatDoorRows.lean that lists a variable, with what it lists TIED to the program's text (the seventh form; the later family's looks); each row that meets fmt, with fmt's text TOLD by the authors' own Lean function (tested against real Go, not proved from fmt's source: count such statements apart). THE CARD IS WHAT COUNTS. Prove the row's statement (the work); the ties are given (YtdlkdiaobbakiaaGreatDoorTie.lean); close each card by the builder's one call (the guide's Derived/Test/ToyasCard.lean, 'card_holds'). Laid BY PROGRAM, IN A SANDBOX (cutbox-door.mjs). By AI agents, Wed Nov 11 2026. No macro, syntax, notation, axiom, sorry.
-/
import Derived.Test.YtdlkdiaobbakiaaGreatDoorRows
import GoSem.ClaimSeven
namespace Go.Proofs.YtdlkdiaobbakiaaGreatDoor
namespace Rows

/-- THE TIED CARD OF 'colscanlaw.LawDecode'. -/
def lawDecodeCard : Claim7 := { stood := { row := lawDecodeRow, standIns := [], harness := (true, "d1daa01a9f036e693afa90e0ef648e85bd95f8322bab9044e5c0fa85d65818a6"), looks := false }, kinds := [], alts := [], laidByText := true, laidKinds := [.data], laidTests := true, laidLooks := .later }
def LawDecodeCardSaid : Prop := Claim7.holds Tryz.pinned (.plain (OpenSpec.ofChange lawDecodeSpec)) lawDecodeCard

/-- THE TIED CARD OF 'colscanlaw.LawEncode'. -/
def lawEncodeCard : Claim7 := { stood := { row := lawEncodeRow, standIns := [], harness := (true, "d1daa01a9f036e693afa90e0ef648e85bd95f8322bab9044e5c0fa85d65818a6"), looks := false }, kinds := [], alts := [], laidByText := true, laidKinds := [.data], laidTests := true, laidLooks := .later }
def LawEncodeCardSaid : Prop := Claim7.holds Tryz.pinned (.plain (OpenSpec.ofChange lawEncodeSpec)) lawEncodeCard

/-- THE SECOND FORM's CARD OF 'colscanlaw.LawDecode'. -/
def lawDecodeUptoCard : Claim7 := { stood := { row := lawDecodeUptoRow, standIns := [], harness := (true, "d1daa01a9f036e693afa90e0ef648e85bd95f8322bab9044e5c0fa85d65818a6"), looks := false }, kinds := [], alts := [], laidByText := true, laidKinds := [.data], laidTests := true, laidLooks := .later }
def LawDecodeUptoCardSaid : Prop := Claim7.holds Tryz.pinned (.plain (OpenSpec.upto lawDecodeSpec)) lawDecodeUptoCard

/-- THE SECOND FORM's CARD OF 'colscanlaw.LawEncode'. -/
def lawEncodeUptoCard : Claim7 := { stood := { row := lawEncodeUptoRow, standIns := [], harness := (true, "d1daa01a9f036e693afa90e0ef648e85bd95f8322bab9044e5c0fa85d65818a6"), looks := false }, kinds := [], alts := [], laidByText := true, laidKinds := [.data], laidTests := true, laidLooks := .later }
def LawEncodeUptoCardSaid : Prop := Claim7.holds Tryz.pinned (.plain (OpenSpec.upto lawEncodeSpec)) lawEncodeUptoCard
end Rows
end Go.Proofs.YtdlkdiaobbakiaaGreatDoor
