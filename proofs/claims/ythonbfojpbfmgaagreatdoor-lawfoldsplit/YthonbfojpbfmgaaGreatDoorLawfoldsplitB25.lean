/- Package kernel: the hits of a chunk whose values stand in lanes (integers). -/
import Derived.Test.YthonbfojpbfmgaaGreatDoorLawfoldsplitB24
import Derived.Test.YthonbfojpbfmgaaGreatDoorLawfoldsplitB4
import Derived.Deep.Onto
import Derived.Test.YthonbfojpbfmgaaGreatDoorLawfoldsplitB23
import Derived.Test.YthonbfojpbfmgaaGreatDoorLawfoldsplitB10
import Derived.Test.YthonbfojpbfmgaaGreatDoorLawfoldsplitB7
import Derived.Test.YthonbfojpbfmgaaGreatDoorLawfoldsplitB3
set_option linter.unusedVariables false
set_option linter.unusedSimpArgs false
set_option linter.unnecessarySimpa false
set_option maxRecDepth 100000
namespace Go.Proofs.YthonbfojpbfmgaaGreatDoor
open Go.RowKit

end Go.Proofs.YthonbfojpbfmgaaGreatDoor

/- Package kernel: the hits of a chunk (integers). -/
set_option linter.unusedVariables false
set_option linter.unusedSimpArgs false
set_option linter.unnecessarySimpa false
set_option maxRecDepth 100000
namespace Go.Proofs.YthonbfojpbfmgaaGreatDoor
open Go.RowKit

/-- a chunk's values: what is known of them, by codec -/
def HitD_I (codec wd count : Nat) (list : List Int) (ends : List Nat) (base : Int) (lanes : List Nat) : Prop :=
  (codec = 1 ∧ list.length = count ∧ count ≤ 65536) ∨
  (codec = 3 ∧ list.length = ends.length ∧ count ≤ 65536 ∧ ends.length ≤ 65536 ∧ (∀ a b, a < b → b < ends.length → ends.getD a 0 < ends.getD b 0) ∧ endB ends ends.length = count) ∨
  LnD_I codec wd count list base lanes
end Go.Proofs.YthonbfojpbfmgaaGreatDoor

/- The plain answer's Dense. -/
set_option maxRecDepth 512
set_option linter.unusedVariables false
set_option linter.unusedSimpArgs false
set_option linter.unnecessarySimpa false
namespace Go.Proofs.YthonbfojpbfmgaaGreatDoor
open Go.RowKit

end Go.Proofs.YthonbfojpbfmgaaGreatDoor

/- bitvec's Expand and the plain answer's. -/
set_option linter.unusedVariables false
set_option maxRecDepth 100000
set_option linter.unusedSimpArgs false
set_option linter.unnecessarySimpa false
namespace Go.Proofs.YthonbfojpbfmgaaGreatDoor
open Go.RowKit

end Go.Proofs.YthonbfojpbfmgaaGreatDoor

/- Package kernel: the bits of the rows out of those of the values. -/
set_option linter.unusedVariables false
set_option linter.unusedSimpArgs false
set_option linter.unnecessarySimpa false
set_option maxRecDepth 100000
namespace Go.Proofs.YthonbfojpbfmgaaGreatDoor
open Go.RowKit

end Go.Proofs.YthonbfojpbfmgaaGreatDoor

/- Package kernel: what the filters of both kinds have in common. -/
set_option linter.unusedVariables false
set_option linter.unusedSimpArgs false
set_option linter.unnecessarySimpa false
set_option maxRecDepth 100000
namespace Go.Proofs.YthonbfojpbfmgaaGreatDoor
open Go.RowKit

end Go.Proofs.YthonbfojpbfmgaaGreatDoor
