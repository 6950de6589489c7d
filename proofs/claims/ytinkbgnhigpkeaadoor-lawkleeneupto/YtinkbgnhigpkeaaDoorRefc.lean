/- The plain answer's Unpack. -/
import Derived.Test.YtinkbgnhigpkeaaDoorRefb
set_option linter.unusedVariables false
set_option linter.unusedSimpArgs false
set_option linter.unnecessarySimpa false
namespace Go.Proofs.YtinkbgnhigpkeaaDoor
open Go.RowKit

theorem lane_bit {wd : Nat} (h0 : 0 < wd) (h : wd ≤ 64) (xs : List Nat) (j t p d s c : Nat) (hp : 64 / wd = p) (hd : j / p = d) (hs : j % p * wd + t = s) (ht : t < wd) (hs64 : s < 64) (hc : c = 64 * d + s) :
    bitOf xs c = (L.laneOf wd xs j).testBit t := by
  have h1 : c / 64 = d := by omega
  have h2 : c % 64 = s := by omega
  rw [bitOf, h1, h2]
  simp only [L.laneOf, show wd ≠ 0 from by omega, if_false, hp, hd]
  rw [Nat.testBit_mod_two_pow, Nat.testBit_div_two_pow]
  simp [ht, ← hs, Nat.add_comm]
theorem or_mod_bit (y t : Nat) (hb : y.testBit t = true) : y % 2 ^ t ||| 2 ^ t = y % 2 ^ (t + 1) := by
  rw [L.mod_succ_bit, if_pos hb, L.or_bit _ _ (Nat.mod_lt _ (Nat.pow_pos (by omega)))]
theorem get_mid (A B : List Value) (x : Value) (i : Nat) (hi : i = A.length) : (A ++ [x] ++ B)[i]? = some x := by subst hi; simp
theorem set_mid (A B : List Value) (x y : Value) (i : Nat) (hi : i = A.length) : (A ++ [x] ++ B).set i y = A ++ [y] ++ B := by subst hi; simp
theorem okVals_lanes (wd n : Nat) (hwd : wd ≤ 64) (hn : n ≤ 65536) (xs : List Nat) : okVals (wd : Int) (L.lanesL wd n xs) = true := by
  simp only [okVals, okLim, Bool.and_eq_true, List.all_eq_true, decide_eq_true_eq, Int.toNat_natCast, L.lanesL_length]
  exact ⟨by omega, fun x hx => L.lanesL_lt wd n xs x hx⟩

end Go.Proofs.YtinkbgnhigpkeaaDoor
