/- Package bitvec's Pack and Unpack. -/
import Derived.Test.YtinkbgnhigpkeaaDoorBva
import Derived.Test.YtinkbgnhigpkeaaDoorLay
import Derived.Deep.RegionWith
set_option linter.unusedVariables false
set_option linter.unusedSimpArgs false
set_option linter.unnecessarySimpa false
namespace Go.Proofs.YtinkbgnhigpkeaaDoor
open Go.RowKit

theorem and_lane (x q wd : Nat) (hx : x < 18446744073709551616) (hw : wd ≤ 64) :
    bits BinOp.and IntKind.u64 ((x : Int) / 2 ^ q) ((2 ^ wd - 1 : Nat) : Int) = ((x / 2 ^ q % 2 ^ wd : Nat) : Int) := by
  have e : ((x : Int) / 2 ^ q) = ((x / 2 ^ q : Nat) : Int) := by simp
  have h := pow_le_64 hw
  have h0 : 0 < 2 ^ wd := Nat.pow_pos (by omega)
  have h1 : x / 2 ^ q ≤ x := Nat.div_le_self _ _
  rw [e, u64_and_nat _ _ (by omega) (by omega), Nat.and_two_pow_sub_one_eq_mod]



/-- the row with the places from o on laid with vs -/
def lay (cs : List Value) (o : Nat) (vs : List Value) : List Value := cs.take o ++ vs ++ cs.drop (o + vs.length)
theorem lay_nil (cs : List Value) (o : Nat) : lay cs o [] = cs := by simp [lay]
theorem lay_length (cs : List Value) (o : Nat) (vs : List Value) (h : o + vs.length ≤ cs.length) : (lay cs o vs).length = cs.length := by
  simp [lay]; omega
theorem lay_snoc (cs : List Value) (o : Nat) (vs : List Value) (v : Value) (h : o + vs.length < cs.length) : (lay cs o vs).set (o + vs.length) v = lay cs o (vs ++ [v]) := by
  unfold lay
  have h1 : (cs.take o ++ vs).length = o + vs.length := by simp; omega
  rw [List.set_append_right _ _ (by omega), h1, Nat.sub_self, List.drop_eq_getElem_cons h, List.set_cons_zero]
  simp [Nat.add_assoc]

def okVals (wd : Int) (xs : List Nat) : Bool := okLim wd xs.length && xs.all fun x => decide (x < 2 ^ wd.toNat)

/-- what Pack answers -/
def packR (wd : Int) (xs : List Nat) : List Nat := if okVals wd xs = true then L.packL wd.toNat xs else []

/-- what Unpack answers -/
def unpackR (wd n : Int) (xs : List Nat) : List Nat := if okPack wd n xs = true then L.lanesL wd.toNat n.toNat xs else []

theorem lay_fill (A vs : List Value) (n : Nat) (z : Value) (q : Nat) (hq : q = A.length) (h : vs.length ≤ n) : lay (A ++ List.replicate n z) q vs = A ++ vs ++ List.replicate (n - vs.length) z := by
  subst hq
  unfold lay
  rw [List.take_left, List.drop_append, List.drop_eq_nil_of_le (by omega)]
  simp
theorem lanes_chunk (wd n p k c : Nat) (xs : List Nat) (h0 : 0 < wd) (h : wd ≤ 64) (hp : 64 / wd = p) (hc : c = min p (n - k * p)) :
    ((L.lanesL wd n xs).drop (k * p)).take p = (List.range c).map fun j => xs.getD k 0 / 2 ^ (j * wd) % 2 ^ wd := by
  have hpp := L.per_pos h0 h
  rw [hp] at hpp
  apply List.ext_getElem?
  intro j
  rw [List.getElem?_take]
  by_cases hj : j < c
  · rw [if_pos (by omega), List.getElem?_drop, L.lanesL, List.getElem?_map, List.getElem?_range (by omega), List.getElem?_map, List.getElem?_range hj]
    have hjp : j < p := by omega
    have e1 : (k * p + j) / p = k := by rw [Nat.mul_comm k p, Nat.mul_add_div hpp, Nat.div_eq_of_lt hjp, Nat.add_zero]
    have e2 : (k * p + j) % p = j := by rw [Nat.mul_comm k p, Nat.mul_add_mod, Nat.mod_eq_of_lt hjp]
    simp only [Option.map_some, L.laneOf, hp, show wd ≠ 0 from by omega, if_false, e1, e2]
  · rw [List.getElem?_eq_none (l := List.map _ _) (by simp; omega)]
    split
    · rw [List.getElem?_drop, List.getElem?_eq_none]; simp [L.lanesL]; omega
    · rfl

end Go.Proofs.YtinkbgnhigpkeaaDoor
