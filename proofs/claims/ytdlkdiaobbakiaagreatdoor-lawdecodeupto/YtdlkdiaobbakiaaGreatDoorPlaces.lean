/- The plain answer's Rank; bitvec's setPlaces and Indexes. -/
import Derived.Test.YtdlkdiaobbakiaaGreatDoorCmpb
import Derived.Test.YtdlkdiaobbakiaaGreatDoorRefi
import Derived.Test.YtdlkdiaobbakiaaGreatDoorLayI
set_option linter.unusedVariables false
set_option linter.unusedSimpArgs false
set_option linter.unnecessarySimpa false
set_option maxRecDepth 20000
namespace Go.Proofs.YtdlkdiaobbakiaaGreatDoor
open Go.RowKit

theorem ints_i64s (l : List Nat) : ints l = i64s (l.map fun n : Nat => (n : Int)) := by simp [ints, i64s, List.map_map, Function.comp]

set_option maxHeartbeats 1000000 in
theorem refRank_any (v : Value) (xs : List Nat) (n i : Int) (w : World) (hx : Rd w v xs.length 1 (u64s xs)) (hv : ∀ x ∈ xs, x < 18446744073709551616) (hl : xs.length ≤ maxLen) :
    Calls Tryz.prog 25 #[v, .int .i64 n, .int .i64 i] w fun e w' => e = .returned (.int .i64 (rankR n i xs)) ∧ w' = w := by
  have H := hid (refIsBitmap_any _ xs n w hx hv hl)
  have HX := hid hx; have HV := hid hv; have HL := hid hl
  clear hx hv hl
  obtain ⟨R, hR⟩ : ∃ R, rankR n i xs = R := ⟨_, rfl⟩
  rw [hR]
  have HR := hid hR
  clear hR
  generalize hok : okPack 1 n xs = ok at *
  have HOK := hid hok
  clear hok
  go_enter Tryz.func25, Tryz.ntmps25
  cases ok
  · go_wp2_with (go_at_call 24; refine H.out.mono ?_; rintro e w' ⟨rfl, rfl⟩)
    go_ret
    exact ⟨ret_i64 (by rw [← HR.out, rankR, if_neg (by rw [HOK.out]; simp)]), rfl⟩
  · by_cases h0 : i < 0
    · go_wp2_with (go_at_call 24; refine H.out.mono ?_; rintro e w' ⟨rfl, rfl⟩)
      go_ret
      exact ⟨ret_i64 (by rw [← HR.out, rankR, if_neg (by omega)]), rfl⟩
    · by_cases h1 : n < i
      · go_wp2_with (go_at_call 24; refine H.out.mono ?_; rintro e w' ⟨rfl, rfl⟩)
        go_ret
        exact ⟨ret_i64 (by rw [← HR.out, rankR, if_neg (by omega)]), rfl⟩
      · obtain ⟨k, rfl⟩ := Int.eq_ofNat_of_zero_le (show 0 ≤ i by omega)
        have hn : n ≤ 65536 := by
          refine Decidable.byContradiction fun hc => ?_
          have := HOK.out
          rw [okPack_not _ (by omega)] at this; cases this
        have HQ : Hid (R = ((rankN xs k : Nat) : Int)) := by
          refine hid ?_; rw [← HR.out, rankR, if_pos ⟨HOK.out, by omega, by omega⟩]; simp
        have hk : k ≤ 65536 := by omega
        go_wp2_with (go_at_call 24; refine H.out.mono ?_; rintro e w' ⟨rfl, hw⟩; replace hw := hw.symm; subst hw)
        go_loop [7, 8] (fun c p => ∃ j : Nat, j ≤ k ∧ p = .int .i64 j ∧ c = .int .i64 (rankN xs j : Nat)) (fun _ p => k - (intOf p).toNat)
        case atStart => exact ⟨0, by omega, rfl, by simp [rankN]⟩
        case round =>
          obtain ⟨j, hj, rfl, rfl⟩ := hrel
          by_cases hlt : j < k
          · have HC := hid (bitAt_any v xs j w HX.out HV.out HL.out (by omega))
            have hle := idxN_le xs j
            rw [idxN_length] at hle
            have HS := hid (rankN_succ xs j)
            generalize bitOf xs j = bb at *
            generalize rankN xs j = a at *
            cases bb
            · go_wp2_with (go_at_call 27; refine HC.out.mono ?_; rintro e w' ⟨rfl, hw⟩; replace hw := hw.symm; subst hw)
              go_round
              case rel => exact ⟨j + 1, by omega, by go_num, by rw [HS.out]; simp⟩
              case measure => simp [intOf]; omega
            · go_wp2_with (go_at_call 27; refine HC.out.mono ?_; rintro e w' ⟨rfl, hw⟩; replace hw := hw.symm; subst hw)
              go_round
              case rel => exact ⟨j + 1, by omega, by go_num, by rw [HS.out]; simp⟩
              case measure => simp [intOf]; omega
          · go_wp2
            go_ret
            exact ⟨ret_i64 (by rw [HQ.out, show j = k from by omega]), rfl⟩

theorem idxN_gap (xs : List Nat) (t : Nat) : ∀ d, (∀ p, t ≤ p → p < t + d → bitOf xs p = false) → idxN xs (t + d) = idxN xs t
  | 0, _ => rfl
  | d + 1, h => by
    rw [← Nat.add_assoc, idxN_snoc, h (t + d) (by omega) (by omega), idxN_gap xs t d (fun p h1 h2 => h p h1 (by omega))]
    simp
theorem ctz_below (x : Nat) (h0 : x ≠ 0) (h : x < 18446744073709551616) (p : Nat) (hp : p < Lib.ctz 64 x) : x.testBit p = false := by
  obtain ⟨m, hm, hk⟩ := ctz_form x h0 h
  generalize Lib.ctz 64 x = t at *
  have hlt : 2 ^ t < 2 ^ (t + 1) := Nat.pow_lt_pow_right (by omega) (by omega)
  rw [hm, Nat.add_comm, Nat.testBit_two_pow_mul_add _ hlt, Nat.testBit_two_pow, if_pos (by omega)]
  simp; omega
/-- the bits of the word k that are still to come -/
def Rest (xs : List Nat) (k t y : Nat) : Prop := t ≤ 64 ∧ y < 18446744073709551616 ∧ ∀ p, p < 64 → y.testBit p = (bitOf xs (64 * k + p) && decide (t ≤ p))
theorem rest_zero {xs : List Nat} {k t : Nat} (h : Rest xs k t 0) : idxN xs (64 * (k + 1)) = idxN xs (64 * k + t) := by
  rw [show 64 * (k + 1) = 64 * k + t + (64 - t) from by have := h.1; omega]
  refine idxN_gap xs _ _ (fun p h1 h2 => ?_)
  have h3 := h.1
  have := h.2.2 (p - 64 * k) (by omega)
  rw [Nat.zero_testBit, show 64 * k + (p - 64 * k) = p from by omega] at this
  simpa [show t ≤ p - 64 * k from by omega] using this.symm
theorem rest_next {xs : List Nat} {k t y : Nat} (h : Rest xs k t y) (h0 : y ≠ 0) : idxN xs (64 * k + (Lib.ctz 64 y + 1)) = idxN xs (64 * k + t) ++ [64 * k + Lib.ctz 64 y] ∧ Rest xs k (Lib.ctz 64 y + 1) (y &&& (y - 1)) ∧ Lib.ctz 64 y < 64 ∧ (y &&& (y - 1)) < y := by
  obtain ⟨ht, hy, hb⟩ := h
  have hk : Lib.ctz 64 y < 64 := (Lib.lowest_bit 64 y h0 hy).2
  have hcl := clear_lowest y h0 hy
  have hbel := ctz_below y h0 hy
  have hset : bitOf xs (64 * k + Lib.ctz 64 y) = true ∧ t ≤ Lib.ctz 64 y := by
    have := hb (Lib.ctz 64 y) hk
    rw [(hcl 0).2.1] at this
    simpa using this.symm
  refine ⟨?_, ⟨by omega, by have := (hcl 0).2.2; omega, fun p hp => ?_⟩, hk, (hcl 0).2.2⟩
  · rw [← Nat.add_assoc, idxN_snoc, hset.1, if_pos rfl]
    congr 1
    have e : 64 * k + Lib.ctz 64 y = 64 * k + t + (Lib.ctz 64 y - t) := by omega
    rw [e]
    refine idxN_gap xs _ _ (fun p h1 h2 => ?_)
    have h3 := hbel (p - 64 * k) (by omega)
    rw [hb _ (by omega), show 64 * k + (p - 64 * k) = p from by omega] at h3
    simpa [show t ≤ p - 64 * k from by omega] using h3
  · rw [(hcl p).1, hb p hp]
    by_cases h1 : p = Lib.ctz 64 y
    · simp [h1]
    · by_cases h2 : p < Lib.ctz 64 y
      · have h3 := hbel p h2
        rw [hb p hp] at h3
        rw [h3]; simp [show ¬ Lib.ctz 64 y + 1 ≤ p from by omega]
      · simp [h1, show t ≤ p from by omega, show Lib.ctz 64 y + 1 ≤ p from by omega]
theorem rest_first (xs : List Nat) (k : Nat) (hv : ∀ x ∈ xs, x < 18446744073709551616) (hk : k < xs.length) : Rest xs k 0 (xs.getD k 0) := by
  refine ⟨by omega, hv _ (by simp [List.getD, List.getElem?_eq_getElem hk]), fun p hp => ?_⟩
  unfold bitOf
  rw [show (64 * k + p) / 64 = k from by omega, show (64 * k + p) % 64 = p from by omega]
  simp
end Go.Proofs.YtdlkdiaobbakiaaGreatDoor
