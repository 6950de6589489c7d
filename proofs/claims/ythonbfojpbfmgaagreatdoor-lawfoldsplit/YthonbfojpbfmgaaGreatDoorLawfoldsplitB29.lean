/- Package kernel: the hits of chunks that hold a list (of strings). -/
import Derived.Test.YthonbfojpbfmgaaGreatDoorLawfoldsplitB18
import Derived.Test.YthonbfojpbfmgaaGreatDoorLawfoldsplitB21
import Derived.Test.YthonbfojpbfmgaaGreatDoorLawfoldsplitB10
import Derived.Test.YthonbfojpbfmgaaGreatDoorLawfoldsplitB23
import Derived.Test.YthonbfojpbfmgaaGreatDoorLawfoldsplitB7
set_option linter.unusedVariables false
set_option linter.unusedSimpArgs false
set_option linter.unnecessarySimpa false
set_option maxRecDepth 100000
namespace Go.Proofs.YthonbfojpbfmgaaGreatDoor
open Go.RowKit

/-- a leaf's literals in memory -/
structure Lit_S (w : World) (op : Int) (lv : Value) (lits : List ByteArray) : Prop where
  rd : Rd w lv lits.length 1 (strs lits)
  ok : litsOk op lits.length
  up : op = 7 → ∀ a b, a < b → b < lits.length → ltS (lits.getD a ByteArray.empty) (lits.getD b ByteArray.empty) = true
  le : lits.length ≤ 1048576
theorem Lit_S.mono {w w' : World} {op : Int} {lv : Value} {lits : List ByteArray} (h : Lit_S w op lv lits) (hb : Below w.heap.size w w') : Lit_S w' op lv lits := ⟨h.rd.mono hb, h.ok, h.up, h.le⟩
theorem Lit_S.holds {w : World} {op : Int} {lv : Value} {lits : List ByteArray} (h : Lit_S w op lv lits) (v : ByteArray) :
    Calls Tryz.prog 149 #[.agg #[.int .i64 op, lv], .string v] w fun e w' => e = .returned (.bool (leafT op (lits.map pS) (pS v))) ∧ Below w.heap.size w w' :=
  holdsS_any op lits lv v w h.rd h.ok h.up h.le
end Go.Proofs.YthonbfojpbfmgaaGreatDoor

/- Package kernel: literals carried over into the domain of the lanes (strings). -/
set_option linter.unusedVariables false
set_option linter.unusedSimpArgs false
set_option linter.unnecessarySimpa false
set_option maxRecDepth 100000
namespace Go.Proofs.YthonbfojpbfmgaaGreatDoor
open Go.RowKit

/-- literals and codecs that come into question -/
def okL_S (x : ByteArray) : Prop := True
def cdL_S (cd : Nat) : Prop := cd = 2
end Go.Proofs.YthonbfojpbfmgaaGreatDoor

/- Package kernel: hits out of lanes (strings). -/
set_option linter.unusedVariables false
set_option linter.unusedSimpArgs false
set_option linter.unnecessarySimpa false
set_option maxRecDepth 100000
namespace Go.Proofs.YthonbfojpbfmgaaGreatDoor
open Go.RowKit

/-- a chunk's lanes: what is known of them -/
structure LnD_S (codec wd count : Nat) (list : List ByteArray) (base : Int) (lanes : List Nat) : Prop where
  cd : codec = 2 ∨ codec = 4 ∨ codec = 5
  cd2 : cdL_S codec
  ok : okPack wd count lanes = true
  lv : ∀ x ∈ lanes, x < 18446744073709551616
  lm : lanes.length ≤ 16777216
  ll : list.length ≤ 1048576
  cn : count ≤ 65536
  up : codec = 2 → ∀ a b, a < b → b < list.length → ltS (list.getD a ByteArray.empty) (list.getD b ByteArray.empty) = true
  inl : codec = 2 → ∀ j, j < count → L.laneOf wd lanes j < list.length
  b : okI base
  rm : codec ≠ 2 → ∀ j, j < count → base + (L.laneOf wd lanes j : Int) ≤ 9223372036854775807
end Go.Proofs.YthonbfojpbfmgaaGreatDoor

/- Package kernel: the hits of a chunk whose values stand in lanes (strings). -/
set_option linter.unusedVariables false
set_option linter.unusedSimpArgs false
set_option linter.unnecessarySimpa false
set_option maxRecDepth 100000
namespace Go.Proofs.YthonbfojpbfmgaaGreatDoor
open Go.RowKit

end Go.Proofs.YthonbfojpbfmgaaGreatDoor

/- Package kernel: the hits of a chunk (strings). -/
set_option linter.unusedVariables false
set_option linter.unusedSimpArgs false
set_option linter.unnecessarySimpa false
set_option maxRecDepth 100000
namespace Go.Proofs.YthonbfojpbfmgaaGreatDoor
open Go.RowKit

/-- a chunk's values: what is known of them, by codec -/
def HitD_S (codec wd count : Nat) (list : List ByteArray) (ends : List Nat) (base : Int) (lanes : List Nat) : Prop :=
  (codec = 1 ∧ list.length = count ∧ count ≤ 65536) ∨
  (codec = 3 ∧ list.length = ends.length ∧ count ≤ 65536 ∧ ends.length ≤ 65536 ∧ (∀ a b, a < b → b < ends.length → ends.getD a 0 < ends.getD b 0) ∧ endB ends ends.length = count) ∨
  LnD_S codec wd count list base lanes
end Go.Proofs.YthonbfojpbfmgaaGreatDoor
