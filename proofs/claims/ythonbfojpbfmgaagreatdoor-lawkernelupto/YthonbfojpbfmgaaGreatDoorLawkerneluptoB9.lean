/- Package chunk: the number of a row's value. -/
import Derived.Test.YthonbfojpbfmgaaGreatDoorLawkerneluptoB8
import Derived.Test.YthonbfojpbfmgaaGreatDoorLawkerneluptoB5
import Derived.Deep.CutRange
import Derived.Deep.RegionHeld3
import Derived.Test.YthonbfojpbfmgaaGreatDoorLawkerneluptoB3
set_option linter.unusedVariables false
set_option linter.unusedSimpArgs false
set_option linter.unnecessarySimpa false
set_option maxRecDepth 100000
namespace Go.Proofs.YthonbfojpbfmgaaGreatDoor
open Go.RowKit

end Go.Proofs.YthonbfojpbfmgaaGreatDoor

/- Package chunk: the cell of a row. -/
set_option linter.unusedVariables false
set_option linter.unusedSimpArgs false
set_option linter.unnecessarySimpa false
set_option maxRecDepth 100000
namespace Go.Proofs.YthonbfojpbfmgaaGreatDoor
open Go.RowKit

end Go.Proofs.YthonbfojpbfmgaaGreatDoor

/- Package chunk: lists of cells. -/
set_option linter.unusedVariables false
set_option linter.unusedSimpArgs false
set_option linter.unnecessarySimpa false
set_option maxRecDepth 100000
namespace Go.Proofs.YthonbfojpbfmgaaGreatDoor
open Go.RowKit

end Go.Proofs.YthonbfojpbfmgaaGreatDoor

/- Package chunk: a value of a frame. -/
set_option linter.unusedVariables false
set_option linter.unusedSimpArgs false
set_option linter.unnecessarySimpa false
set_option maxRecDepth 100000
namespace Go.Proofs.YthonbfojpbfmgaaGreatDoor
open Go.RowKit

def val45 (base : Int) (lane : Nat) : Int := IntKind.i64.wrap (base + IntKind.i64.wrap (lane : Int))
end Go.Proofs.YthonbfojpbfmgaaGreatDoor

/- A chunk in memory, and its lane. -/
set_option linter.unusedVariables false
set_option linter.unusedSimpArgs false
set_option linter.unnecessarySimpa false
set_option maxRecDepth 20000
namespace Go.Proofs.YthonbfojpbfmgaaGreatDoor
open Go.RowKit

/-- the cells of a chunk: rows, codec, width, nulls, count, list, ends, base, lanes, kind, nulls before -/
def ck_S (rows codec width : Int) (nulls : Value) (count : Int) (list ends : Value) (base : Int) (lanes kind bef : Value) : List Value :=
  [i64 rows, i64 codec, i64 width, nulls, i64 count, list, ends, i64 base, lanes, kind, bef]
/-- a chunk at block g, by its fields -/
structure CkAt_S (w : World) (g : Nat) (rows codec width : Int) (nulls : Value) (count : Int) (list ends : Value) (base : Int) (lanes kind bef : Value) : Prop where
  row : Row w g 94 (ck_S rows codec width nulls count list ends base lanes kind bef)

end Go.Proofs.YthonbfojpbfmgaaGreatDoor

/- Package chunk: a value of a chunk, by its codec. -/
set_option linter.unusedVariables false
set_option linter.unusedSimpArgs false
set_option linter.unnecessarySimpa false
set_option maxRecDepth 100000
namespace Go.Proofs.YthonbfojpbfmgaaGreatDoor
open Go.RowKit

/-- a chunk in memory that was looked through, with its lists -/
structure Ck_S (w : World) (g : Nat) (rows : Int) (codec wd : Nat) (nulls : List Nat) (count : Int) (list : List ByteArray) (ends : List Nat) (base : Int) (lanes : List Nat) : Prop where
  ex : ∃ nu lv ev nv bef, Row w g 94 (ck_S rows codec wd nu count lv ev base nv (.iface 66 (.agg #[])) bef) ∧ Rd w nu nulls.length 1 (u64s nulls) ∧ Rd w lv list.length 1 (lstS list) ∧
    Rd w ev ends.length 1 (nIs ends) ∧ Rd w nv lanes.length 1 (u64s lanes) ∧ Rd w bef nulls.length 1 (i64s (befL nulls))
theorem Ck_S.mono {w w' : World} {g : Nat} {rows : Int} {codec wd : Nat} {nulls : List Nat} {count : Int} {list : List ByteArray} {ends : List Nat} {base : Int} {lanes : List Nat} (h : Ck_S w g rows codec wd nulls count list ends base lanes) (hb : Below w.heap.size w w') :
    Ck_S w' g rows codec wd nulls count list ends base lanes := by
  obtain ⟨nu, lv, ev, nv, bef, h1, h2, h3, h4, h5, h6⟩ := h.ex
  exact ⟨nu, lv, ev, nv, bef, h1.mono hb, h2.mono hb, h3.mono hb, h4.mono hb, h5.mono hb, h6.mono hb⟩

/-- value number j -/
def val_S (codec wd : Nat) (list : List ByteArray) (ends : List Nat) (lanes : List Nat) (j : Nat) : ByteArray :=
  if codec = 1 then list.getD j dfS else if codec = 2 then list.getD (L.laneOf wd lanes j) dfS else list.getD (firstGe (nI ends) ((j : Int) + 1)) dfS
/-- where it can be asked -/
def ok_S (codec wd : Nat) (list : List ByteArray) (ends : List Nat) (lanes : List Nat) (j : Nat) : Prop :=
  (codec = 1 ∧ j < list.length) ∨ (codec = 2 ∧ L.laneOf wd lanes j < list.length ∧ wd ≤ 64 ∧ (0 < wd → j / (64 / wd) < lanes.length)) ∨
    (codec = 3 ∧ firstGe (nI ends) ((j : Int) + 1) < list.length ∧ ∀ a b, a < b → b < (nI ends).length → (nI ends).getD a 0 < (nI ends).getD b 0)

end Go.Proofs.YthonbfojpbfmgaaGreatDoor

/- Package chunk: the number of a row's value. -/
set_option linter.unusedVariables false
set_option linter.unusedSimpArgs false
set_option linter.unnecessarySimpa false
set_option maxRecDepth 100000
namespace Go.Proofs.YthonbfojpbfmgaaGreatDoor
open Go.RowKit

end Go.Proofs.YthonbfojpbfmgaaGreatDoor

/- Package chunk: the cell of a row. -/
set_option linter.unusedVariables false
set_option linter.unusedSimpArgs false
set_option linter.unnecessarySimpa false
set_option maxRecDepth 100000
namespace Go.Proofs.YthonbfojpbfmgaaGreatDoor
open Go.RowKit

end Go.Proofs.YthonbfojpbfmgaaGreatDoor

/- Package chunk: lists of cells. -/
set_option linter.unusedVariables false
set_option linter.unusedSimpArgs false
set_option linter.unnecessarySimpa false
set_option maxRecDepth 100000
namespace Go.Proofs.YthonbfojpbfmgaaGreatDoor
open Go.RowKit

end Go.Proofs.YthonbfojpbfmgaaGreatDoor

/- The head of a body. -/
set_option maxRecDepth 512
set_option linter.unusedVariables false
namespace Go.Proofs.YthonbfojpbfmgaaGreatDoor
open Go.RowKit
/-- the head of a body: codec, width, the words of the bitmap, and what is left behind each -/
structure Head where
  codec : Nat
  wd : Nat
  nulls : List Nat
  left : List Nat
  short : Bool
def headOf (rows : Nat) (xs : List Nat) : Head :=
  { codec := L.wordOf 8 (tk 1 xs), wd := L.wordOf 8 (tk 1 (tkL 1 xs)), nulls := numL 8 (tk (8 * ((rows + 63) / 64)) (tkL 1 (tkL 1 xs))),
    left := tkL (8 * ((rows + 63) / 64)) (tkL 1 (tkL 1 xs)), short := tkS (8 * ((rows + 63) / 64)) (tkL 1 (tkL 1 xs)) (tkS 1 (tkL 1 xs) (tkS 1 xs false)) }
/-- how many rows are not NULL -/
def cntOf (rows : Nat) (nulls : List Nat) : Nat := rows - rankN nulls rows
def headOk (kind : Int) (rows : Nat) (h : Head) : Bool := okPack 1 rows h.nulls && isCodec kind h.codec
end Go.Proofs.YthonbfojpbfmgaaGreatDoor

/- Package chunk: values, both kinds, every codec. -/
set_option linter.unusedVariables false
set_option linter.unusedSimpArgs false
set_option linter.unnecessarySimpa false
set_option maxRecDepth 100000
namespace Go.Proofs.YthonbfojpbfmgaaGreatDoor
open Go.RowKit

def vl_I (cd wd : Nat) (list : List Int) (ends : List Nat) (base : Int) (lanes : List Nat) (j : Nat) : Int :=
  if cd = 4 ∨ cd = 5 then val45 base (L.laneOf wd lanes j) else val_I cd wd list ends lanes j
def okv_I (cd wd : Nat) (list : List Int) (ends : List Nat) (lanes : List Nat) (j : Nat) : Prop :=
  ((cd = 4 ∨ cd = 5) ∧ wd ≤ 64 ∧ (0 < wd → j / (64 / wd) < lanes.length)) ∨ ok_I cd wd list ends lanes j
def vl_S (cd wd : Nat) (list : List ByteArray) (ends : List Nat) (base : Int) (lanes : List Nat) (j : Nat) : ByteArray := val_S cd wd list ends lanes j
def okv_S (cd wd : Nat) (list : List ByteArray) (ends : List Nat) (lanes : List Nat) (j : Nat) : Prop := ok_S cd wd list ends lanes j
/-- the fields of the cell of a value -/
def cB_I (x : Int) : Int := x
def cC_I (x : Int) : ByteArray := ByteArray.empty
def cB_S (x : ByteArray) : Int := 0
def cC_S (x : ByteArray) : ByteArray := x
end Go.Proofs.YthonbfojpbfmgaaGreatDoor
