/- Package bitvec's comparison of whole words, and its small bitmap functions. -/
import Derived.Test.YtgobcaianpmbiaaBm
import Derived.Deep.RegionWith
set_option linter.unusedVariables false
set_option linter.unusedSimpArgs false
set_option linter.unnecessarySimpa false
namespace Go.Proofs.Ytgobcaianpmbiaa
open Go.RowKit

def isRel (op : Int) : Bool := decide (1 ≤ op ∧ op ≤ 6)
/-- is a in the relation op to b? -/
def standsB (op : Int) (a b : Nat) : Bool :=
  if op = 1 then decide (a = b) else if op = 2 then decide (a ≠ b) else if op = 3 then decide (a < b) else if op = 4 then decide (a ≤ b) else if op = 5 then decide (b < a) else decide (b ≤ a)

theorem beq_cast (a b : Nat) : ((a : Int) == (b : Int)) = decide (a = b) := by
  by_cases h : a = b
  · simp [h]
  · have : ¬ (a : Int) = (b : Int) := by omega
    simp [h, this]
theorem bne_cast (a b : Nat) : ((a : Int) != (b : Int)) = decide (a ≠ b) := by
  simp only [bne, beq_cast]; by_cases h : a = b <;> simp [h]

theorem sub_u64 (a b : Nat) (h : b ≤ a) (ha : a < 18446744073709551616) : IntKind.u64.wrap ((a : Int) - (b : Int)) = ((a - b : Nat) : Int) := by rw [IntKind.wrap_u64]; omega
theorem u64_andNot_nat' (a b : Nat) (ha : a < 18446744073709551616) (hb : b < 18446744073709551616) : bits .andNot .u64 (a : Int) (b : Int) = ((a &&& (L.M64 - b) : Nat) : Int) := u64_andNot_nat a b ha hb
theorem M64_lt (b : Nat) : L.M64 - b < 18446744073709551616 := by unfold L.M64; omega
theorem and_lt64 {a : Nat} (b : Nat) (ha : a < 18446744073709551616) : a &&& b < 18446744073709551616 := Nat.lt_of_le_of_lt Nat.and_le_left ha
theorem or_lt64 {a b : Nat} (ha : a < 18446744073709551616) (hb : b < 18446744073709551616) : a ||| b < 18446744073709551616 := Nat.or_lt_two_pow (n := 64) ha hb
theorem xor_lt64 {a b : Nat} (ha : a < 18446744073709551616) (hb : b < 18446744073709551616) : a ^^^ b < 18446744073709551616 := Nat.xor_lt_two_pow (n := 64) ha hb
theorem not_u64' (a : Nat) (ha : a < 18446744073709551616) : bits BinOp.xor IntKind.u64 IntKind.u64.max (a : Int) = ((L.M64 - a : Nat) : Int) := not_u64 (a : Int) a rfl ha

theorem lessN_lt (a b t : Nat) (ht : t < 18446744073709551616) : L.lessN a b t < 18446744073709551616 := Nat.lt_of_le_of_lt Nat.and_le_right ht

/-- what compareWord answers -/
def cmpN (op : Int) (a b t : Nat) : Nat :=
  if op = 1 then t &&& (L.M64 - (L.lessN a b t ||| L.lessN b a t)) else if op = 2 then L.lessN a b t ||| L.lessN b a t else if op = 3 then L.lessN a b t
  else if op = 4 then t &&& (L.M64 - L.lessN b a t) else if op = 5 then L.lessN b a t else t &&& (L.M64 - L.lessN a b t)
end Go.Proofs.Ytgobcaianpmbiaa
