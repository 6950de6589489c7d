/- Package bitvec's small functions on widths and places. -/
import Derived.Test.YtioaeijogjcghaaProg
import Derived.Test.YtioaeijogjcghaaMem
import Derived.Test.YtioaeijogjcghaaLanes
set_option linter.unusedVariables false
set_option linter.unusedSimpArgs false
set_option linter.unnecessarySimpa false
namespace Go.Proofs.Ytioaeijogjcghaa
open Go.RowKit

theorem ret_i64 {a b : Int} (h : a = b) : Ending.returned (.int .i64 a) = .returned (.int .i64 b) := by rw [h]
theorem ret_u64 {a b : Int} (h : a = b) : Ending.returned (.int .u64 a) = .returned (.int .u64 b) := by rw [h]
theorem ret_bool {a b : Bool} (h : a = b) : Ending.returned (.bool a) = .returned (.bool b) := by rw [h]

theorem pow_le_64 {k : Nat} (h : k ≤ 64) : 2 ^ k ≤ 18446744073709551616 := by
  have : 2 ^ k ≤ 2 ^ 64 := Nat.pow_le_pow_right (by omega) h
  simpa using this
theorem wrap_u64_nat (n : Nat) (h : n < 18446744073709551616) : IntKind.u64.wrap (n : Int) = (n : Int) := by rw [IntKind.wrap_u64]; omega
theorem low_bits (k : Nat) (hk : k ≤ 64) : IntKind.u64.wrap (IntKind.u64.wrap (2 ^ k) - 1) = ((2 ^ k - 1 : Nat) : Int) := by
  have h := pow_le_64 hk
  have h0 : 0 < 2 ^ k := Nat.pow_pos (by omega)
  have e : ((2 : Int) ^ k) = ((2 ^ k : Nat) : Int) := by simp
  rw [e, IntKind.wrap_u64, IntKind.wrap_u64]
  omega

theorem wrap_shl (p q : Nat) (h : p * 2 ^ q < 18446744073709551616) : IntKind.u64.wrap ((p : Int) * 2 ^ q) = ((p * 2 ^ q : Nat) : Int) := by
  have e : ((p : Int) * 2 ^ q) = ((p * 2 ^ q : Nat) : Int) := by simp
  rw [e, wrap_u64_nat _ h]
/-- one lane more in a word -/
theorem or_lane (a p wd j : Nat) (ha : a < 2 ^ (wd * j)) (hp : p < 2 ^ wd) (hj : (j + 1) * wd ≤ 64) :
    bits BinOp.or IntKind.u64 (a : Int) (IntKind.u64.wrap ((p : Int) * 2 ^ (j * wd))) = ((a + p * 2 ^ (wd * j) : Nat) : Int) := by
  rw [Nat.mul_comm wd j] at ha ⊢
  have h1 : (p + 1) * 2 ^ (j * wd) ≤ 2 ^ wd * 2 ^ (j * wd) := Nat.mul_le_mul_right _ hp
  rw [← Nat.pow_add, Nat.add_comm wd, Nat.add_mul, Nat.one_mul] at h1
  have h2 : 2 ^ (j * wd + wd) ≤ 18446744073709551616 := pow_le_64 (by rw [Nat.add_mul, Nat.one_mul] at hj; exact hj)
  have h3 : p * 2 ^ (j * wd) < 18446744073709551616 := by omega
  rw [wrap_shl p _ h3, u64_or_nat _ _ (by omega) h3]
  congr 1
  rw [Nat.or_comm, nat_join (j * wd) _ _ (Nat.mul_mod_left _ _) ha, Nat.add_comm]

def okLim (wd n : Int) : Bool := decide (0 ≤ wd ∧ wd ≤ 64 ∧ 0 ≤ n ∧ n ≤ 65536)
/-- is the list of words a packing of n lanes of width wd? -/
def okPack (wd n : Int) (ws : List Nat) : Bool := okLim wd n && decide (L.packL wd.toNat (L.lanesL wd.toNat n.toNat ws) = ws)
theorem okPack_not {wd n : Int} (ws : List Nat) (h : ¬ (0 ≤ wd ∧ wd ≤ 64 ∧ 0 ≤ n ∧ n ≤ 65536)) : okPack wd n ws = false := by simp [okPack, okLim, h]
theorem okPack_nat {wd n : Nat} (ws : List Nat) (h : wd ≤ 64) (hn : n ≤ 65536) : okPack wd n ws = true ↔ L.IsPack wd n ws := by
  rw [L.isPack_iff h]
  simp [okPack, okLim]
  omega

theorem andNot_low (a s : Nat) (ha : a < 18446744073709551616) (hs : s ≤ 64) : bits BinOp.andNot IntKind.u64 (a : Int) ((2 ^ s - 1 : Nat) : Int) = ((a / 2 ^ s * 2 ^ s : Nat) : Int) := by
  have h := pow_le_64 hs
  have h0 : 0 < 2 ^ s := Nat.pow_pos (by omega)
  rw [u64_andNot_nat _ _ ha (by omega)]
  congr 1
  apply Nat.eq_of_testBit_eq
  intro i
  have e : 18446744073709551615 - (2 ^ s - 1) = 2 ^ 64 - ((2 ^ s - 1) + 1) := by omega
  rw [Nat.testBit_and, e, Nat.testBit_two_pow_sub_succ (by omega), Nat.testBit_two_pow_sub_one, Nat.testBit_mul_two_pow, Nat.testBit_div_two_pow]
  by_cases h1 : s ≤ i
  · by_cases h2 : i < 64
    · simp [h1, h2]
    · have : a.testBit i = false := Nat.testBit_lt_two_pow (Nat.lt_of_lt_of_le ha (by
        have : 2 ^ 64 ≤ 2 ^ i := Nat.pow_le_pow_right (by omega) (by omega)
        simpa using this))
      simp [h1, h2, this]
  · simp [h1]; intros; omega
theorem andNot_test (a s : Nat) (ha : a < 18446744073709551616) (hs : s ≤ 64) : (bits BinOp.andNot IntKind.u64 (a : Int) ((2 ^ s - 1 : Nat) : Int) != 0) = decide (¬ a < 2 ^ s) := by
  have h0 : 0 < 2 ^ s := Nat.pow_pos (by omega)
  rw [andNot_low a s ha hs]
  by_cases h : a < 2 ^ s
  · simp [Nat.div_eq_of_lt h, h]
  · have h1 : 0 < a / 2 ^ s := Nat.div_pos (by omega) h0
    have h2 : 0 < a / 2 ^ s * 2 ^ s := Nat.mul_pos h1 h0
    have h3 : ((a / 2 ^ s * 2 ^ s : Nat) : Int) ≠ 0 := by omega
    have h4 : (((a / 2 ^ s * 2 ^ s : Nat) : Int) != 0) = true := by rw [bne_iff_ne]; exact h3
    rw [h4]; simp [h]

end Go.Proofs.Ytioaeijogjcghaa
