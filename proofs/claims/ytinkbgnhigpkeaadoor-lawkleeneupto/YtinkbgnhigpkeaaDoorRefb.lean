/- The plain answer's Pack. -/
import Derived.Test.YtinkbgnhigpkeaaDoorRefa
import Derived.Test.YtinkbgnhigpkeaaDoorBvb
set_option linter.unusedVariables false
set_option linter.unusedSimpArgs false
set_option linter.unnecessarySimpa false
namespace Go.Proofs.YtinkbgnhigpkeaaDoor
open Go.RowKit

/-- the words after the lanes l and the first t bits of x -/
def upTo (wd : Nat) (l : List Nat) (x t : Nat) : List Nat := L.packL wd (l ++ if t = 0 then [] else [x % 2 ^ t])
theorem upTo_zero (wd : Nat) (l : List Nat) (x : Nat) : upTo wd l x 0 = L.packL wd l := by simp [upTo]
theorem upTo_all (wd : Nat) (h : wd ≤ 64) (l : List Nat) (x : Nat) (hx : x < 2 ^ wd) : upTo wd l x wd = L.packL wd (l ++ [x]) := by
  unfold upTo
  by_cases h0 : wd = 0
  · subst h0; simp [L.packL_zero]
  · rw [if_neg h0, Nat.mod_eq_of_lt hx]
theorem upTo_long {wd : Nat} (h0 : 0 < wd) (h : wd ≤ 64) (l : List Nat) (x t : Nat) (hl : l.length / (64 / wd) < (upTo wd l x t).length) : upTo wd l x t = L.packL wd (l ++ [x % 2 ^ t]) := by
  by_cases ht : t = 0
  · subst ht
    rw [upTo_zero] at hl ⊢
    rw [Nat.pow_zero, Nat.mod_one, L.packL_snoc_zero h0 h l hl]
  · simp [upTo, ht]
theorem upTo_short {wd : Nat} (h0 : 0 < wd) (h : wd ≤ 64) (l : List Nat) (x t : Nat) (hl : (upTo wd l x t).length ≤ l.length / (64 / wd)) : upTo wd l x t ++ [0] = L.packL wd (l ++ [x % 2 ^ t]) := by
  by_cases ht : t = 0
  · subst ht
    rw [upTo_zero] at hl ⊢
    rw [Nat.pow_zero, Nat.mod_one, L.packL_snoc_zero_new h0 h l hl]
  · exfalso
    simp only [upTo, ht, if_false] at hl
    rw [L.packL_snoc_length h0 h] at hl
    omega
theorem upTo_bit {wd : Nat} (h0 : 0 < wd) (h : wd ≤ 64) (l : List Nat) (hl : ∀ x ∈ l, x < 2 ^ wd) (x t : Nat) :
    (x.testBit t = false → upTo wd l x (t + 1) = L.packL wd (l ++ [x % 2 ^ t])) ∧
    (x.testBit t = true → (L.packL wd (l ++ [x % 2 ^ t])).set (l.length / (64 / wd)) ((L.packL wd (l ++ [x % 2 ^ t])).getD (l.length / (64 / wd)) 0 ||| 2 ^ (l.length % (64 / wd) * wd + t)) = upTo wd l x (t + 1)) := by
  refine ⟨fun hb => ?_, fun hb => ?_⟩
  · simp [upTo, L.mod_succ_bit, hb]
  · rw [L.packL_bit h0 h l hl x t hb]; simp [upTo]

theorem u64s_set (ys : List Nat) (i n : Nat) : (u64s ys).set i (.int .u64 (n : Int)) = u64s (ys.set i n) := by simp [u64s, u64, List.map_set]
theorem or_u64_bit (a s : Nat) (ha : a < 18446744073709551616) (hs : s < 64) : bits BinOp.or IntKind.u64 (a : Int) (IntKind.u64.wrap (2 ^ s)) = ((a ||| 2 ^ s : Nat) : Int) := by
  have h : 2 ^ s < 18446744073709551616 := by
    have : 2 ^ s ≤ 2 ^ 63 := Nat.pow_le_pow_right (by omega) (by omega)
    omega
  have e : ((2 : Int) ^ s) = ((2 ^ s : Nat) : Int) := by simp
  rw [e, wrap_u64_nat _ h, u64_or_nat _ _ ha h]

end Go.Proofs.YtinkbgnhigpkeaaDoor
