/- The plain answers' small functions: below, laneBit, bitAt. -/
import Derived.Test.YtinkbgnhigpkeaaDoorBva
set_option linter.unusedVariables false
set_option linter.unusedSimpArgs false
set_option linter.unnecessarySimpa false
namespace Go.Proofs.YtinkbgnhigpkeaaDoor
open Go.RowKit

theorem bit_test (x q : Nat) (hx : x < 18446744073709551616) : (bits BinOp.and IntKind.u64 ((x : Int) / 2 ^ q) 1 == 1) = x.testBit q := by
  have e : ((x : Int) / 2 ^ q) = ((x / 2 ^ q : Nat) : Int) := by simp
  have h1 : x / 2 ^ q ≤ x := Nat.div_le_self _ _
  rw [e, show (1 : Int) = ((1 : Nat) : Int) from rfl, u64_and_nat _ _ (by omega) (by decide), nat_mask1]
  rw [Nat.testBit_eq_decide_div_mod_eq]
  have : x / 2 ^ q % 2 = 0 ∨ x / 2 ^ q % 2 = 1 := by omega
  rcases this with h | h <;> rw [h] <;> rfl

theorem lt_pow_of_bits (v wd : Nat) (hv : v < 2 ^ 64) (hb : ∀ i, wd ≤ i → i < 64 → v.testBit i = false) : v < 2 ^ wd := by
  apply Nat.lt_pow_two_of_testBit
  intro i hi
  rcases Nat.lt_or_ge i 64 with h | h
  · exact hb i hi h
  · exact Nat.testBit_lt_two_pow (Nat.lt_of_lt_of_le hv (Nat.pow_le_pow_right (by omega) h))

/-- the bit at a place, over all words; beyond them none is set -/
def bitOf (xs : List Nat) (i : Nat) : Bool := (xs.getD (i / 64) 0).testBit (i % 64)

set_option maxHeartbeats 400000 in
theorem bitAt_any (v : Value) (xs : List Nat) (i : Nat) (w : World) (hx : Rd w v xs.length 1 (u64s xs)) (hv : ∀ x ∈ xs, x < 18446744073709551616) (hl : xs.length ≤ maxLen) (hi : i ≤ 9223372036854775807) :
    Calls Tryd.prog 41 #[v, .int .i64 i] w fun e w' => e = .returned (.bool (bitOf xs i)) ∧ w' = w := by
  unfold maxLen at hl
  obtain ⟨A, ca, rfl, hlc, hcm, hA⟩ := hx.form
  clear hx hlc hcm
  obtain ⟨d, hd⟩ : ∃ d, i / 64 = d := ⟨_, rfl⟩
  obtain ⟨r, hr⟩ : ∃ r, i % 64 = r := ⟨_, rfl⟩
  have hd' : (i : Int) / 64 = (d : Int) := by omega
  have hr' : (i : Int) % 64 = (r : Int) := by omega
  have hr64 : r < 64 := by omega
  have hdi : d ≤ i := by omega
  have HB : Hid (bitOf xs i = (xs.getD d 0).testBit r) := by refine hid ?_; rw [bitOf, hd, hr]
  clear hd hr
  by_cases hlt : d < xs.length
  · obtain ⟨b, o, rfl, hs⟩ := hA (by omega)
    have c1 := hs.word d hlt
    have hvd := hv (xs.getD d 0) (by simp [List.getD, List.getElem?_eq_getElem hlt])
    have HT := hid (bit_test (xs.getD d 0) r hvd)
    clear hA hs hvd
    generalize xs.getD d 0 = x at *
    go_enter Tryd.func41, Tryd.ntmps41
    go_wp2
    go_ret
    exact ⟨ret_bool (by rw [HB.out, HT.out]), rfl⟩
  · have hz : xs.getD d 0 = 0 := by simp [List.getD, List.getElem?_eq_none (show xs.length ≤ d by omega)]
    rw [hz, Nat.zero_testBit] at HB
    clear hz hA
    go_enter Tryd.func41, Tryd.ntmps41
    go_wp2
    go_ret
    exact ⟨ret_bool (by rw [HB.out]), rfl⟩
end Go.Proofs.YtinkbgnhigpkeaaDoor
