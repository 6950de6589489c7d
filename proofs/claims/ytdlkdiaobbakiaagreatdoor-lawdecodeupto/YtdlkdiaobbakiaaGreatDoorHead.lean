/- The head of a body. -/
import Derived.Test.YtdlkdiaobbakiaaGreatDoorLan
set_option linter.unusedVariables false
namespace Go.Proofs.YtdlkdiaobbakiaaGreatDoor
open Go.RowKit
/-- the head of a body: codec, width, the words of the bitmap, and what is left behind each -/
structure Head where
  codec : Nat
  wd : Nat
  nulls : List Nat
  left : List Nat
  short : Bool
def headOf (rows : Nat) (xs : List Nat) : Head :=
  { codec := L.wordOf 8 (tk 1 xs), wd := L.wordOf 8 (tk 1 (tkL 1 xs)), nulls := numL 8 (tk (8 * ((rows + 63) / 64)) (tkL 1 (tkL 1 xs))),
    left := tkL (8 * ((rows + 63) / 64)) (tkL 1 (tkL 1 xs)), short := tkS (8 * ((rows + 63) / 64)) (tkL 1 (tkL 1 xs)) (tkS 1 (tkL 1 xs) (tkS 1 xs false)) }
/-- how many rows are not NULL -/
def cntOf (rows : Nat) (nulls : List Nat) : Nat := rows - rankN nulls rows
def headOk (kind : Int) (rows : Nat) (h : Head) : Bool := okPack 1 rows h.nulls && isCodec kind h.codec
end Go.Proofs.YtdlkdiaobbakiaaGreatDoor
