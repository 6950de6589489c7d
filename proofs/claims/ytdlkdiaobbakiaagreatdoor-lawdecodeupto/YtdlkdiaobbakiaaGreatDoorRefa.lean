/- The plain answers' small functions: below, laneBit, bitAt. -/
import Derived.Test.YtdlkdiaobbakiaaGreatDoorBva
set_option linter.unusedVariables false
set_option linter.unusedSimpArgs false
set_option linter.unnecessarySimpa false
namespace Go.Proofs.YtdlkdiaobbakiaaGreatDoor
open Go.RowKit

theorem bit_test (x q : Nat) (hx : x < 18446744073709551616) : (bits BinOp.and IntKind.u64 ((x : Int) / 2 ^ q) 1 == 1) = x.testBit q := by
  have e : ((x : Int) / 2 ^ q) = ((x / 2 ^ q : Nat) : Int) := by simp
  have h1 : x / 2 ^ q ≤ x := Nat.div_le_self _ _
  rw [e, show (1 : Int) = ((1 : Nat) : Int) from rfl, u64_and_nat _ _ (by omega) (by decide), nat_mask1]
  rw [Nat.testBit_eq_decide_div_mod_eq]
  have : x / 2 ^ q % 2 = 0 ∨ x / 2 ^ q % 2 = 1 := by omega
  rcases this with h | h <;> rw [h] <;> rfl

theorem lt_pow_of_bits (v wd : Nat) (hv : v < 2 ^ 64) (hb : ∀ i, wd ≤ i → i < 64 → v.testBit i = false) : v < 2 ^ wd := by
  apply Nat.lt_pow_two_of_testBit
  intro i hi
  rcases Nat.lt_or_ge i 64 with h | h
  · exact hb i hi h
  · exact Nat.testBit_lt_two_pow (Nat.lt_of_lt_of_le hv (Nat.pow_le_pow_right (by omega) h))

set_option maxHeartbeats 400000 in
theorem below_any (v wd : Nat) (w : World) (h1 : v < 18446744073709551616) (h3 : wd ≤ 64) :
    Calls Tryz.prog 128 #[.int .u64 v, .int .i64 wd] w fun e w' => e = .returned (.bool (decide (v < 2 ^ wd))) ∧ w' = w := by
  go_enter Tryz.func128, Tryz.ntmps128
  go_wp2
  go_loop [5] (fun i => ∃ k : Nat, wd ≤ k ∧ k ≤ 64 ∧ i = .int .i64 k ∧ ∀ t, wd ≤ t → t < k → v.testBit t = false) (fun i => 64 - (intOf i).toNat)
  case atStart => exact ⟨wd, by omega, by omega, rfl, fun t h1 h2 => by omega⟩
  case round =>
    obtain ⟨k, hk, hk2, rfl, hall⟩ := hrel
    have HA := hid hall
    clear hall
    by_cases hlt : k < 64
    · have HT := hid (bit_test v k h1)
      go_wp2
      · have h : (bits BinOp.and IntKind.u64 (↑v / 2 ^ k) 1 == 1) = true := by assumption
        go_ret
        refine ⟨ret_bool ?_, rfl⟩
        rw [HT.out] at h
        symm
        rw [decide_eq_false_iff_not]
        intro hc
        have : v.testBit k = false := Nat.testBit_lt_two_pow (Nat.lt_of_lt_of_le hc (Nat.pow_le_pow_right (by omega) hk))
        rw [this] at h; cases h
      · have h : (bits BinOp.and IntKind.u64 (↑v / 2 ^ k) 1 == 1) = false := by assumption
        go_round
        case rel =>
          refine ⟨k + 1, by omega, by omega, by go_num, fun t ht1 ht2 => ?_⟩
          by_cases htk : t = k
          · subst htk; rw [← HT.out]; exact h
          · exact HA.out t ht1 (by omega)
        case measure => simp [intOf]; omega
    · go_wp2
      go_ret
      refine ⟨ret_bool ?_, rfl⟩
      symm
      rw [decide_eq_true_eq]
      exact lt_pow_of_bits v wd h1 fun i hi1 hi2 => HA.out i hi1 (by omega)

theorem laneBit_any (j t wd p c : Nat) (w : World) (h0 : 0 < wd) (h : wd ≤ 64) (ht : t < wd) (hj : j ≤ 65536) (hp : 64 / wd = p) (hc : 64 * (j / p) + j % p * wd + t = c) :
    Calls Tryz.prog 129 #[.int .i64 j, .int .i64 t, .int .i64 wd] w fun e w' => e = .returned (.int .i64 c) ∧ ∃ n, w' = w.drewN n := by
  have hpp := L.per_pos h0 h
  have hp64 : 64 / wd ≤ 64 := Nat.div_le_self _ _
  have HP := hid hp
  rw [hp] at hpp hp64
  obtain ⟨a, ha⟩ : ∃ a, j / p = a := ⟨_, rfl⟩
  obtain ⟨b, hb⟩ : ∃ b, j % p = b := ⟨_, rfl⟩
  have ha' : (j : Int) / (p : Int) = (a : Int) := by rw [← ha]; simp
  have hb' : (j : Int) % (p : Int) = (b : Int) := by rw [← hb]; simp
  have hale : a ≤ j := by rw [← ha]; exact Nat.div_le_self _ _
  have hble : b < p := by rw [← hb]; exact Nat.mod_lt _ hpp
  obtain ⟨q, hq⟩ : ∃ q, b * wd = q := ⟨_, rfl⟩
  have hq' : (b : Int) * (wd : Int) = (q : Int) := by rw [← hq]; simp
  have hq64 : q ≤ 64 := by
    rw [← hq]; exact Nat.le_trans (Nat.mul_le_mul_right wd (Nat.le_of_lt hble)) (by rw [← hp]; exact L.per_mul wd)
  rw [ha, hb, hq] at hc
  have HC := hid hc
  clear hp hc ha hb hq
  have hpi : (64 : Int) / (wd : Int) = (p : Int) := by rw [← HP.out]; simp
  have hne : ¬ ((p : Int) = 0) := by omega
  go_enter Tryz.func129, Tryz.ntmps129
  go_wp2
  go_quiet (fail)
  go_wp2
  all_goals go_ret
  refine ⟨ret_i64 ?_, _, rfl⟩
  rw [← HC.out]
  simp

/-- the bit at a place, over all words; beyond them none is set -/
def bitOf (xs : List Nat) (i : Nat) : Bool := (xs.getD (i / 64) 0).testBit (i % 64)

set_option maxHeartbeats 400000 in
theorem bitAt_any (v : Value) (xs : List Nat) (i : Nat) (w : World) (hx : Rd w v xs.length 1 (u64s xs)) (hv : ∀ x ∈ xs, x < 18446744073709551616) (hl : xs.length ≤ maxLen) (hi : i ≤ 9223372036854775807) :
    Calls Tryz.prog 27 #[v, .int .i64 i] w fun e w' => e = .returned (.bool (bitOf xs i)) ∧ w' = w := by
  unfold maxLen at hl
  obtain ⟨A, ca, rfl, hlc, hcm, hA⟩ := hx.form
  clear hx hlc hcm
  obtain ⟨d, hd⟩ : ∃ d, i / 64 = d := ⟨_, rfl⟩
  obtain ⟨r, hr⟩ : ∃ r, i % 64 = r := ⟨_, rfl⟩
  have hd' : (i : Int) / 64 = (d : Int) := by omega
  have hr' : (i : Int) % 64 = (r : Int) := by omega
  have hr64 : r < 64 := by omega
  have hdi : d ≤ i := by omega
  have HB : Hid (bitOf xs i = (xs.getD d 0).testBit r) := by refine hid ?_; rw [bitOf, hd, hr]
  clear hd hr
  by_cases hlt : d < xs.length
  · obtain ⟨b, o, rfl, hs⟩ := hA (by omega)
    have c1 := hs.word d hlt
    have hvd := hv (xs.getD d 0) (by simp [List.getD, List.getElem?_eq_getElem hlt])
    have HT := hid (bit_test (xs.getD d 0) r hvd)
    clear hA hs hvd
    generalize xs.getD d 0 = x at *
    go_enter Tryz.func27, Tryz.ntmps27
    go_wp2
    go_ret
    exact ⟨ret_bool (by rw [HB.out, HT.out]), rfl⟩
  · have hz : xs.getD d 0 = 0 := by simp [List.getD, List.getElem?_eq_none (show xs.length ≤ d by omega)]
    rw [hz, Nat.zero_testBit] at HB
    clear hz hA
    go_enter Tryz.func27, Tryz.ntmps27
    go_wp2
    go_ret
    exact ⟨ret_bool (by rw [HB.out]), rfl⟩
end Go.Proofs.YtdlkdiaobbakiaaGreatDoor
