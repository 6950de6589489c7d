/- The plain answer: Encode. -/
import Derived.Test.YthonbfojpbfmgaaGreatDoorLawfolduptoB17
import Derived.Test.YthonbfojpbfmgaaGreatDoorLawfolduptoB11
import Derived.Test.YthonbfojpbfmgaaGreatDoorLawfolduptoB3
import Derived.Test.YthonbfojpbfmgaaGreatDoorLawfolduptoB8
import Derived.Test.YthonbfojpbfmgaaGreatDoorLawfolduptoB6
set_option linter.unusedVariables false
set_option linter.unusedSimpArgs false
set_option linter.unnecessarySimpa false
set_option maxRecDepth 100000
namespace Go.Proofs.YthonbfojpbfmgaaGreatDoor
open Go.RowKit

end Go.Proofs.YthonbfojpbfmgaaGreatDoor

/- Mathematics of the round trip: numbers, lists, lanes, read where they were put. -/
set_option linter.unusedVariables false
set_option linter.unusedSimpArgs false
set_option linter.unnecessarySimpa false
set_option maxRecDepth 100000
namespace Go.Proofs.YthonbfojpbfmgaaGreatDoor
open Go.RowKit

/-- a value that fits 64 bits -/
def okI (x : Int) : Prop := -9223372036854775808 ≤ x ∧ x ≤ 9223372036854775807
end Go.Proofs.YthonbfojpbfmgaaGreatDoor

/- Mathematics of the round trip: dictionaries, runs, frames. -/
set_option linter.unusedVariables false
set_option linter.unusedSimpArgs false
set_option linter.unnecessarySimpa false
set_option maxRecDepth 100000
namespace Go.Proofs.YthonbfojpbfmgaaGreatDoor
open Go.RowKit

/-- the runs among the first t values: where the last ends, and what they stand for -/
structure RunInv (vs : List PV) (t l : Nat) : Prop where
  up : endsUp 0 (nI (runEndsL vs t)) = some (l : Int)
  fill : fillP (runHeads vs t) (runEndsL vs t) (runEndsL vs t).length = vs.take l
  alike : ∀ m, l ≤ m → m < t → m + 1 < vs.length ∧ vs.getD m dfP = vs.getD (m + 1) dfP
  nop : noPair eqP (runHeads vs t) = true
  le : l ≤ t
  last : ∀ x, (runHeads vs t).getLast? = some x → l < vs.length → x ≠ vs.getD l dfP
end Go.Proofs.YthonbfojpbfmgaaGreatDoor

/- Leaves: what a leaf is for a value. -/
set_option linter.unusedVariables false
set_option linter.unusedSimpArgs false
set_option linter.unnecessarySimpa false
set_option maxRecDepth 100000
namespace Go.Proofs.YthonbfojpbfmgaaGreatDoor
open Go.RowKit

/-- is the leaf (other than OpIsNull) TRUE for the value? -/
def leafT (op : Int) (ls : List PV) (v : PV) : Bool :=
  if op = 7 then ls.any (fun a => eqP v a) else if op = 8 then decide (0 ≤ ordP v (ls.getD 0 dfP)) && decide (ordP v (ls.getD 1 dfP) ≤ 0) else standsS op (ordP v (ls.getD 0 dfP))
/-- what the code's test is handed for a leaf that is well-typed -/
def litsOk (op : Int) (n : Nat) : Prop := 1 ≤ op ∧ op ≤ 8 ∧ (op ≤ 6 → n = 1) ∧ (op = 8 → n = 2)
end Go.Proofs.YthonbfojpbfmgaaGreatDoor

/- Package kernel: the bitmap of the values for which a test holds (what both kinds have in common). -/
set_option linter.unusedVariables false
set_option linter.unusedSimpArgs false
set_option linter.unnecessarySimpa false
set_option maxRecDepth 100000
namespace Go.Proofs.YthonbfojpbfmgaaGreatDoor
open Go.RowKit

/-- the bits below s, in words for n -/
def BitsTo (n s : Nat) (F : Nat → Bool) (zs : List Nat) : Prop := zs.length = (n + 63) / 64 ∧ (∀ x ∈ zs, x < 18446744073709551616) ∧ ∀ i, bitOf zs i = (decide (i < s) && F i)
theorem BitsTo.set {n s s' : Nat} {F : Nat → Bool} {ys zs : List Nat} (h : BitsTo n s F ys) (h1 : zs.length = (n + 63) / 64) (h2 : ∀ x ∈ zs, x < 18446744073709551616)
    (h3 : ∀ i, bitOf zs i = (bitOf ys i || (decide (s ≤ i) && decide (i < s')))) (hs : s ≤ s') (hF : ∀ i, s ≤ i → i < s' → F i = true) : BitsTo n s' F zs := by
  refine ⟨h1, h2, fun i => ?_⟩
  rw [h3, h.2.2]
  by_cases h4 : i < s
  · simp [h4, show i < s' by omega, show ¬ s ≤ i by omega]
  · by_cases h5 : i < s'
    · simp [h4, h5, show s ≤ i by omega, hF i (by omega) h5]
    · simp [h4, h5]
/-- where run number t starts -/
def endB (ends : List Nat) (t : Nat) : Nat := if t = 0 then 0 else ends.getD (t - 1) 0
theorem nI_get (xs : List Nat) (k : Nat) (h : k < xs.length) : (nI xs).getD k 0 = (xs.getD k 0 : Nat) := by
  unfold nI
  simp [List.getD, List.getElem?_map, List.getElem?_eq_getElem h]
end Go.Proofs.YthonbfojpbfmgaaGreatDoor

/- Package kernel: a relation to a literal as one to a lane. -/
set_option linter.unusedVariables false
set_option linter.unusedSimpArgs false
set_option linter.unnecessarySimpa false
set_option maxRecDepth 100000
namespace Go.Proofs.YthonbfojpbfmgaaGreatDoor
open Go.RowKit

end Go.Proofs.YthonbfojpbfmgaaGreatDoor

/- Package kernel: bitmaps that the lanes' comparison made. -/
set_option linter.unusedVariables false
set_option linter.unusedSimpArgs false
set_option linter.unnecessarySimpa false
set_option maxRecDepth 100000
namespace Go.Proofs.YthonbfojpbfmgaaGreatDoor
open Go.RowKit

end Go.Proofs.YthonbfojpbfmgaaGreatDoor
