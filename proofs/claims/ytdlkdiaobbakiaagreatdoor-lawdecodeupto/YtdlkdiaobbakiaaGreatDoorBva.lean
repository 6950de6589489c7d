/- Package bitvec's small functions on widths and places. -/
import Derived.Test.YtdlkdiaobbakiaaGreatDoorProg
import Derived.Test.YtdlkdiaobbakiaaGreatDoorMem
import Derived.Test.YtdlkdiaobbakiaaGreatDoorLanes
set_option linter.unusedVariables false
set_option linter.unusedSimpArgs false
set_option linter.unnecessarySimpa false
namespace Go.Proofs.YtdlkdiaobbakiaaGreatDoor
open Go.RowKit

theorem ret_i64 {a b : Int} (h : a = b) : Ending.returned (.int .i64 a) = .returned (.int .i64 b) := by rw [h]
theorem ret_u64 {a b : Int} (h : a = b) : Ending.returned (.int .u64 a) = .returned (.int .u64 b) := by rw [h]
theorem ret_bool {a b : Bool} (h : a = b) : Ending.returned (.bool a) = .returned (.bool b) := by rw [h]

theorem inLimits_any (wd n : Int) (w : World) :
    Calls Tryz.prog 148 #[.int .i64 wd, .int .i64 n] w fun e w' => e = .returned (.bool (decide (0 ≤ wd ∧ wd ≤ 64 ∧ 0 ≤ n ∧ n ≤ 65536))) ∧ w' = w := by
  go_enter Tryz.func148, Tryz.ntmps148
  go_wp2
  all_goals go_ret
  all_goals refine ⟨ret_bool ?_, rfl⟩
  all_goals simp only [Bool.and_true, Bool.and_false, Bool.true_and, Bool.false_and, ← Bool.decide_and, decide_eq_decide, true_eq_decide_iff, false_eq_decide_iff]
  all_goals omega

theorem pow_le_64 {k : Nat} (h : k ≤ 64) : 2 ^ k ≤ 18446744073709551616 := by
  have : 2 ^ k ≤ 2 ^ 64 := Nat.pow_le_pow_right (by omega) h
  simpa using this
theorem wrap_u64_nat (n : Nat) (h : n < 18446744073709551616) : IntKind.u64.wrap (n : Int) = (n : Int) := by rw [IntKind.wrap_u64]; omega
theorem low_bits (k : Nat) (hk : k ≤ 64) : IntKind.u64.wrap (IntKind.u64.wrap (2 ^ k) - 1) = ((2 ^ k - 1 : Nat) : Int) := by
  have h := pow_le_64 hk
  have h0 : 0 < 2 ^ k := Nat.pow_pos (by omega)
  have e : ((2 : Int) ^ k) = ((2 ^ k : Nat) : Int) := by simp
  rw [e, IntKind.wrap_u64, IntKind.wrap_u64]
  omega

theorem wrap_shl (p q : Nat) (h : p * 2 ^ q < 18446744073709551616) : IntKind.u64.wrap ((p : Int) * 2 ^ q) = ((p * 2 ^ q : Nat) : Int) := by
  have e : ((p : Int) * 2 ^ q) = ((p * 2 ^ q : Nat) : Int) := by simp
  rw [e, wrap_u64_nat _ h]
/-- one lane more in a word -/
theorem or_lane (a p wd j : Nat) (ha : a < 2 ^ (wd * j)) (hp : p < 2 ^ wd) (hj : (j + 1) * wd ≤ 64) :
    bits BinOp.or IntKind.u64 (a : Int) (IntKind.u64.wrap ((p : Int) * 2 ^ (j * wd))) = ((a + p * 2 ^ (wd * j) : Nat) : Int) := by
  rw [Nat.mul_comm wd j] at ha ⊢
  have h1 : (p + 1) * 2 ^ (j * wd) ≤ 2 ^ wd * 2 ^ (j * wd) := Nat.mul_le_mul_right _ hp
  rw [← Nat.pow_add, Nat.add_comm wd, Nat.add_mul, Nat.one_mul] at h1
  have h2 : 2 ^ (j * wd + wd) ≤ 18446744073709551616 := pow_le_64 (by rw [Nat.add_mul, Nat.one_mul] at hj; exact hj)
  have h3 : p * 2 ^ (j * wd) < 18446744073709551616 := by omega
  rw [wrap_shl p _ h3, u64_or_nat _ _ (by omega) h3]
  congr 1
  rw [Nat.or_comm, nat_join (j * wd) _ _ (Nat.mul_mod_left _ _) ha, Nat.add_comm]

theorem lowBits_any (k : Nat) (w : World) (hk : k ≤ 64) :
    Calls Tryz.prog 95 #[.int .i64 k] w fun e w' => e = .returned (.int .u64 ((2 ^ k - 1 : Nat) : Int)) ∧ w' = w := by
  go_enter Tryz.func95, Tryz.ntmps95
  go_wp2
  go_ret
  exact ⟨ret_u64 (low_bits k hk), rfl⟩

theorem lanesPerWord_any (wd p : Nat) (w : World) (h0 : 0 < wd) (hk : wd ≤ 64) (hp : 64 / wd = p) :
    Calls Tryz.prog 150 #[.int .i64 wd] w fun e w' => e = .returned (.int .i64 p) ∧ w' = w := by
  have HP := hid hp
  clear hp
  go_enter Tryz.func150, Tryz.ntmps150
  go_wp2
  all_goals go_ret
  exact ⟨ret_i64 (by rw [← HP.out]; simp), rfl⟩

theorem laneWords_any (wd n m : Nat) (w : World) (hk : wd ≤ 64) (hn : n ≤ 65536) (hm : L.nWords wd n = m) :
    Calls Tryz.prog 149 #[.int .i64 wd, .int .i64 n] w fun e w' => e = .returned (.int .i64 m) ∧ w' = w := by
  by_cases h0 : wd = 0
  · subst h0
    obtain rfl : m = 0 := by rw [← hm]; rfl
    go_enter Tryz.func149, Tryz.ntmps149
    go_wp2
    go_ret
    exact ⟨rfl, rfl⟩
  · have h1 : ((wd : Int) == 0) = false := by simpa using h0
    have hp := L.per_pos (by omega) hk
    have hp2 : 64 / wd ≤ 64 := Nat.div_le_self 64 wd
    rw [L.nWords_pos (w := wd) (by omega) n] at hm
    obtain ⟨p, hP⟩ : ∃ p, 64 / wd = p := ⟨_, rfl⟩
    rw [hP] at hm hp hp2
    have HM := hid hm
    have HP := hid hP
    clear hm hP
    go_enter Tryz.func149, Tryz.ntmps149
    go_wp2_with (go_at_call 150; refine (lanesPerWord_any wd p _ (by omega) (by omega) HP.out).mono ?_; rintro e w' ⟨rfl, rfl⟩)
    all_goals go_ret
    refine ⟨ret_i64 ?_, rfl⟩
    rw [← HM.out]
    have e : ((n : Int) + p - 1) = ((n + p - 1 : Nat) : Int) := by omega
    rw [e]; simp

/-- how many of n lanes lie in word k -/
theorem lanesInWord_any (wd n k m : Nat) (w : World) (h0 : 0 < wd) (hk : wd ≤ 64) (hn : n ≤ 65536) (hkn : k * (64 / wd) ≤ n) (hm : L.inWord wd n k = m) :
    Calls Tryz.prog 152 #[.int .i64 wd, .int .i64 n, .int .i64 k] w fun e w' => e = .returned (.int .i64 m) ∧ w' = w := by
  have hp := L.per_pos (by omega) hk
  have hp2 : 64 / wd ≤ 64 := Nat.div_le_self 64 wd
  unfold L.inWord at hm
  obtain ⟨p, hP⟩ : ∃ p, 64 / wd = p := ⟨_, rfl⟩
  rw [hP] at hm hp hp2 hkn
  have hk2 : k ≤ n := Nat.le_trans (Nat.le_mul_of_pos_right k hp) hkn
  obtain ⟨q, hq⟩ : ∃ q, k * p = q := ⟨_, rfl⟩
  have hq' : (k : Int) * (p : Int) = (q : Int) := by rw [← hq]; simp
  rw [hq] at hm hkn
  have HM := hid hm
  have HP := hid hP
  clear hm hP
  go_enter Tryz.func152, Tryz.ntmps152
  go_wp2_with (go_at_call 150; refine (lanesPerWord_any wd p _ (by omega) (by omega) HP.out).mono ?_; rintro e w' ⟨rfl, rfl⟩)
  all_goals go_ret
  all_goals refine ⟨ret_i64 ?_, rfl⟩
  all_goals rw [← HM.out]
  all_goals omega

set_option maxHeartbeats 400000 in
/-- a word's values into one word -/
theorem packWord_any (v : Value) (xs : List Nat) (wd : Nat) (w : World) (hx : Rd w v xs.length 1 (u64s xs)) (h0 : 0 < wd) (hk : wd ≤ 64) (hl : xs.length * wd ≤ 64) (hv : ∀ x ∈ xs, x < 2 ^ wd) :
    Calls Tryz.prog 151 #[v, .int .i64 wd] w fun e w' => e = .returned (.int .u64 (L.wordOf wd xs : Nat)) ∧ w' = w := by
  have hl64 : xs.length ≤ 64 := Nat.le_trans (Nat.le_mul_of_pos_right _ h0) hl
  obtain ⟨A, ca, rfl, hlc, hcm, hA⟩ := hx.form
  clear hx
  go_enter Tryz.func151, Tryz.ntmps151
  go_wp2
  go_loop [5, 10] (fun u i => ∃ j : Nat, j ≤ xs.length ∧ i = .int .i64 j ∧ u = .int .u64 (L.wordOf wd (xs.take j) : Nat)) (fun _ i => xs.length - (intOf i).toNat)
  case atStart => exact ⟨0, by omega, rfl, by simp [L.wordOf]⟩
  case round =>
    obtain ⟨j, hj, rfl, rfl⟩ := hrel
    have hlt64 : L.wordOf wd (xs.take j) < 2 ^ (wd * j) := by
      have := L.wordOf_lt wd (xs.take j) fun x hx => hv x (List.mem_of_mem_take hx)
      rwa [List.length_take, Nat.min_eq_left hj] at this
    by_cases hlt : j < xs.length
    · obtain ⟨b, o, rfl, hs⟩ := hA (by omega)
      have c1 := hs.word j hlt
      have hvj : xs.getD j 0 < 2 ^ wd := hv _ (by simp [List.getD, List.getElem?_eq_getElem hlt])
      have hsn : L.wordOf wd (xs.take (j + 1)) = L.wordOf wd (xs.take j) + xs.getD j 0 * 2 ^ (wd * j) := by
        rw [List.take_succ_eq_append_getElem hlt, L.wordOf_snoc, List.length_take, Nat.min_eq_left hj]
        simp [List.getD, List.getElem?_eq_getElem hlt]
      have hjw : (j + 1) * wd ≤ 64 := Nat.le_trans (Nat.mul_le_mul_right wd hlt) hl
      have HO := hid (or_lane (L.wordOf wd (xs.take j)) (xs.getD j 0) wd j hlt64 hvj hjw)
      rw [← hsn] at HO
      obtain ⟨q, hq⟩ : ∃ q, j * wd = q := ⟨_, rfl⟩
      have hq' : (j : Int) * (wd : Int) = (q : Int) := by rw [← hq]; simp
      have hq64 : q ≤ 64 := by rw [← hq]; exact Nat.le_trans (Nat.mul_le_mul_right wd (by omega)) hl
      rw [hq] at HO
      clear hq hsn hA hs hv hvj hlt64
      generalize xs.getD j 0 = p at *
      generalize L.wordOf wd (xs.take j) = a at *
      go_wp2
      go_round
      case rel => exact ⟨j + 1, by omega, by go_num, by rw [HO.out]⟩
      case measure => simp [intOf]; omega
    · go_wp2
      go_ret
      rw [show j = xs.length from by omega, List.take_length]
      exact ⟨rfl, rfl⟩

def okLim (wd n : Int) : Bool := decide (0 ≤ wd ∧ wd ≤ 64 ∧ 0 ≤ n ∧ n ≤ 65536)
/-- is the list of words a packing of n lanes of width wd? -/
def okPack (wd n : Int) (ws : List Nat) : Bool := okLim wd n && decide (L.packL wd.toNat (L.lanesL wd.toNat n.toNat ws) = ws)
theorem okPack_not {wd n : Int} (ws : List Nat) (h : ¬ (0 ≤ wd ∧ wd ≤ 64 ∧ 0 ≤ n ∧ n ≤ 65536)) : okPack wd n ws = false := by simp [okPack, okLim, h]
theorem okPack_nat {wd n : Nat} (ws : List Nat) (h : wd ≤ 64) (hn : n ≤ 65536) : okPack wd n ws = true ↔ L.IsPack wd n ws := by
  rw [L.isPack_iff h]
  simp [okPack, okLim]
  omega

theorem andNot_low (a s : Nat) (ha : a < 18446744073709551616) (hs : s ≤ 64) : bits BinOp.andNot IntKind.u64 (a : Int) ((2 ^ s - 1 : Nat) : Int) = ((a / 2 ^ s * 2 ^ s : Nat) : Int) := by
  have h := pow_le_64 hs
  have h0 : 0 < 2 ^ s := Nat.pow_pos (by omega)
  rw [u64_andNot_nat _ _ ha (by omega)]
  congr 1
  apply Nat.eq_of_testBit_eq
  intro i
  have e : 18446744073709551615 - (2 ^ s - 1) = 2 ^ 64 - ((2 ^ s - 1) + 1) := by omega
  rw [Nat.testBit_and, e, Nat.testBit_two_pow_sub_succ (by omega), Nat.testBit_two_pow_sub_one, Nat.testBit_mul_two_pow, Nat.testBit_div_two_pow]
  by_cases h1 : s ≤ i
  · by_cases h2 : i < 64
    · simp [h1, h2]
    · have : a.testBit i = false := Nat.testBit_lt_two_pow (Nat.lt_of_lt_of_le ha (by
        have : 2 ^ 64 ≤ 2 ^ i := Nat.pow_le_pow_right (by omega) (by omega)
        simpa using this))
      simp [h1, h2, this]
  · simp [h1]; intros; omega
theorem andNot_test (a s : Nat) (ha : a < 18446744073709551616) (hs : s ≤ 64) : (bits BinOp.andNot IntKind.u64 (a : Int) ((2 ^ s - 1 : Nat) : Int) != 0) = decide (¬ a < 2 ^ s) := by
  have h0 : 0 < 2 ^ s := Nat.pow_pos (by omega)
  rw [andNot_low a s ha hs]
  by_cases h : a < 2 ^ s
  · simp [Nat.div_eq_of_lt h, h]
  · have h1 : 0 < a / 2 ^ s := Nat.div_pos (by omega) h0
    have h2 : 0 < a / 2 ^ s * 2 ^ s := Nat.mul_pos h1 h0
    have h3 : ((a / 2 ^ s * 2 ^ s : Nat) : Int) ≠ 0 := by omega
    have h4 : (((a / 2 ^ s * 2 ^ s : Nat) : Int) != 0) = true := by rw [bne_iff_ne]; exact h3
    rw [h4]; simp [h]

set_option maxHeartbeats 1000000 in
theorem isPacking_any (v : Value) (xs : List Nat) (wd n : Int) (w : World) (hx : Rd w v xs.length 1 (u64s xs)) (hv : ∀ x ∈ xs, x < 18446744073709551616) (hl : xs.length ≤ maxLen) :
    Calls Tryz.prog 130 #[v, .int .i64 wd, .int .i64 n] w fun e w' => e = .returned (.bool (okPack wd n xs)) ∧ w' = w := by
  unfold maxLen at hl
  obtain ⟨A, ca, rfl, hlc, hcm, hA⟩ := hx.form
  clear hx
  by_cases hin : 0 ≤ wd ∧ wd ≤ 64 ∧ 0 ≤ n ∧ n ≤ 65536
  · obtain ⟨wd, rfl⟩ := Int.eq_ofNat_of_zero_le hin.1
    obtain ⟨n, rfl⟩ := Int.eq_ofNat_of_zero_le hin.2.2.1
    have hwd : wd ≤ 64 := by omega
    have hn : n ≤ 65536 := by omega
    have HI := hid hin
    have hiff := okPack_nat xs hwd hn
    obtain ⟨m, hm⟩ : ∃ m, L.nWords wd n = m := ⟨_, rfl⟩
    have HM := hid hm
    have HF := hid hiff
    clear hin hm hiff
    go_enter Tryz.func130, Tryz.ntmps130
    by_cases hne : xs.length = m
    · have e1 : (((xs.length : Int)) != (m : Int)) = false := by rw [hne]; simp
      have HN := hid hne
      clear hne
      go_wp2_with (first
        | (go_at_call 148; refine (inLimits_any _ _ _).mono ?_; rintro e w' ⟨rfl, rfl⟩; rw [decide_eq_true HI.out])
        | (go_at_call 149; refine (laneWords_any _ _ m _ (by omega) (by omega) HM.out).mono ?_; rintro e w' ⟨rfl, rfl⟩))
      go_loop [23] (fun i => ∃ k : Nat, k ≤ xs.length ∧ i = .int .i64 k ∧ ∀ t, t < k → xs.getD t 0 < 2 ^ (L.inWord wd n t * wd)) (fun i => xs.length - (intOf i).toNat)
      case atStart => exact ⟨0, by omega, rfl, fun t h => absurd h (Nat.not_lt_zero t)⟩
      case round =>
        obtain ⟨k, hk, rfl, hall⟩ := hrel
        have HA := hid hall
        clear hall
        by_cases hlt : k < xs.length
        · obtain ⟨b, o, rfl, hs⟩ := hA (by omega)
          have c1 := hs.word k hlt
          have hvk : xs.getD k 0 < 18446744073709551616 := hv _ (by simp [List.getD, List.getElem?_eq_getElem hlt])
          have hw0 : 0 < wd := by
            rcases Nat.eq_zero_or_pos wd with h | h
            · exfalso; subst h; have := HM.out; rw [L.nWords_zero] at this; have := HN.out; omega
            · exact h
          have hkp : k * (64 / wd) < n := (L.lt_nWords hw0 hwd).1 (by rw [HM.out, ← HN.out]; exact hlt)
          obtain ⟨c, hc⟩ : ∃ c, L.inWord wd n k = c := ⟨_, rfl⟩
          have hcw : c * wd ≤ 64 := by rw [← hc]; exact L.inWord_le wd n k
          obtain ⟨q, hq⟩ : ∃ q, c * wd = q := ⟨_, rfl⟩
          have hq' : (c : Int) * (wd : Int) = (q : Int) := by rw [← hq]; simp
          rw [hq] at hcw
          have HT := hid (andNot_test (xs.getD k 0) q hvk hcw)
          have HC := hid hc
          have HKP := hid (Nat.le_of_lt hkp)
          have HG : Hid (xs.getD k 0 < 2 ^ q → ∀ t, t < k + 1 → xs.getD t 0 < 2 ^ (L.inWord wd n t * wd)) := by
            intro h t ht
            by_cases htk : t = k
            · subst htk; rw [hc, hq]; exact h
            · exact HA.out t (by omega)
          have HB : Hid (¬ xs.getD k 0 < 2 ^ q → okPack (wd : Int) (n : Int) xs = false) := by
            intro h
            rw [← Bool.not_eq_true, HF.out]
            intro hp
            have := hp.2 k hlt
            rw [hc, hq] at this
            exact h this
          clear hA hs hv hq hc hkp
          generalize xs.getD k 0 = p at *
          generalize hz : 2 ^ q - 1 = z at *
          have HZ := hid hz
          clear hz
          go_wp2_with (first
            | (go_at_call 152; refine (lanesInWord_any _ _ _ c _ (by omega) (by omega) (by omega) HKP.out HC.out).mono ?_; rintro e w' ⟨rfl, rfl⟩)
            | (go_at_call 95; refine (lowBits_any q _ (by omega)).mono ?_; rintro e w' ⟨rfl, rfl⟩; rw [HZ.out]))
          · rename_i h
            go_ret
            rw [HT.out] at h
            exact ⟨ret_bool (HB.out (by simpa using h)).symm, rfl⟩
          · rename_i h
            go_round
            case rel => exact ⟨k + 1, by omega, by go_num, HG.out (by rw [HT.out] at h; simpa using h)⟩
            case measure => simp [intOf]; omega
        · go_wp2
          go_ret
          refine ⟨ret_bool (HF.out.2 ⟨?_, ?_⟩).symm, rfl⟩
          · rw [HM.out]; exact HN.out
          · intro t ht; exact HA.out t (by omega)
    · have e1 : (((xs.length : Int)) != (m : Int)) = true := by rw [bne_iff_ne]; omega
      go_wp2_with (first
        | (go_at_call 148; refine (inLimits_any _ _ _).mono ?_; rintro e w' ⟨rfl, rfl⟩; rw [decide_eq_true HI.out])
        | (go_at_call 149; refine (laneWords_any _ _ m _ (by omega) (by omega) HM.out).mono ?_; rintro e w' ⟨rfl, rfl⟩))
      go_ret
      refine ⟨ret_bool ?_, rfl⟩
      symm
      rw [← Bool.not_eq_true, HF.out]
      exact fun h => hne (h.1.trans HM.out)
  · have hno := okPack_not xs hin
    go_enter Tryz.func130, Tryz.ntmps130
    go_wp2_with (go_at_call 148; refine (inLimits_any _ _ _).mono ?_; rintro e w' ⟨rfl, rfl⟩; rw [decide_eq_false hin])
    go_ret
    exact ⟨ret_bool hno.symm, rfl⟩
end Go.Proofs.YtdlkdiaobbakiaaGreatDoor
