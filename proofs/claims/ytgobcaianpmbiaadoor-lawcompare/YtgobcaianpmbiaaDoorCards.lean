/-
  DERIVED. GIVEN WITH THE SEED: THE CARDS: each row of YtgobcaianpmbiaaDoorRows.lean that lists a variable, with what it lists TIED to the program's text (the seventh form; the later family's looks); each row that meets fmt, with fmt's text TOLD by the authors' own Lean function (tested against real Go, not proved from fmt's source: count such statements apart). THE CARD IS WHAT COUNTS. Prove the row's statement (the work); the ties are given (YtgobcaianpmbiaaDoorTie.lean); close each card by the builder's one call (the guide's Derived/Test/ToyasCard.lean, 'card_holds'). Laid BY PROGRAM, IN A SANDBOX (cutbox-door.mjs). By AI agents, Wed Nov 11 2026. No macro, syntax, notation, axiom, sorry.
-/
import Derived.Test.YtgobcaianpmbiaaDoorRows
import GoSem.ClaimSeven
namespace Go.Proofs.YtgobcaianpmbiaaDoor
namespace Rows

/-- THE TIED CARD OF 'colscanlaw.LawCompare'. -/
def lawCompareCard : Claim7 := { stood := { row := lawCompareRow, standIns := [], harness := (true, "fab21065043724e98163329241ddaa1718965ab6dc369e332cd36e7d10ca1aa6"), looks := false }, kinds := [], alts := [], laidByText := true, laidKinds := [.data], laidTests := true, laidLooks := .later }
def LawCompareCardSaid : Prop := Claim7.holds Tryd.pinned (.plain (OpenSpec.ofChange lawCompareSpec)) lawCompareCard

/-- THE SECOND FORM's CARD OF 'colscanlaw.LawCompare'. -/
def lawCompareUptoCard : Claim7 := { stood := { row := lawCompareUptoRow, standIns := [], harness := (true, "fab21065043724e98163329241ddaa1718965ab6dc369e332cd36e7d10ca1aa6"), looks := false }, kinds := [], alts := [], laidByText := true, laidKinds := [.data], laidTests := true, laidLooks := .later }
def LawCompareUptoCardSaid : Prop := Claim7.holds Tryd.pinned (.plain (OpenSpec.upto lawCompareSpec)) lawCompareUptoCard
end Rows
end Go.Proofs.YtgobcaianpmbiaaDoor
