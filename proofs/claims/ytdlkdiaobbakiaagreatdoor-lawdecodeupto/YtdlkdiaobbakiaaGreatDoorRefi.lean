/- The plain answer's isBitmap and Indexes. -/
import Derived.Test.YtdlkdiaobbakiaaGreatDoorRefd
import Derived.Test.YtdlkdiaobbakiaaGreatDoorRank
set_option linter.unusedVariables false
set_option linter.unusedSimpArgs false
set_option linter.unnecessarySimpa false
set_option maxRecDepth 20000
namespace Go.Proofs.YtdlkdiaobbakiaaGreatDoor
open Go.RowKit

theorem isPack_of_bits {n : Nat} {ws : List Nat} (hl : ws.length = L.nWords 1 n) (hv : ∀ x ∈ ws, x < 18446744073709551616) (h : ∀ i, n ≤ i → i < 64 * ws.length → bitOf ws i = false) : L.IsPack 1 n ws := by
  refine ⟨hl, fun k hk => ?_⟩
  have hx : ws.getD k 0 < 2 ^ 64 := by apply hv; simp [List.getD, List.getElem?_eq_getElem hk]
  have he : L.inWord 1 n k * 1 = min 64 (n - k * 64) := by simp [L.inWord]
  rw [he]
  by_cases h64 : 64 ≤ n - k * 64
  · rw [Nat.min_eq_left h64]; exact hx
  · rw [Nat.min_eq_right (by omega)]
    apply Nat.lt_pow_two_of_testBit
    intro i hi
    by_cases hi64 : i < 64
    · have h1 := h (64 * k + i) (by omega) (by omega)
      unfold bitOf at h1
      rwa [show (64 * k + i) / 64 = k from by omega, show (64 * k + i) % 64 = i from by omega] at h1
    · exact Nat.testBit_lt_two_pow (Nat.lt_of_lt_of_le hx (Nat.pow_le_pow_right (by omega) (by omega)))

theorem okPack1_false_len {m : Nat} {xs : List Nat} (h : xs.length ≠ (m + 63) / 64) : okPack 1 (m : Int) xs = false := by
  by_cases hm : m ≤ 65536
  · cases hc : okPack 1 (m : Int) xs
    · rfl
    · exact absurd (((okPack_nat (wd := 1) (n := m) xs (by decide) hm).1 hc).1.trans (nWords1 m)) h
  · exact okPack_not _ (by omega)
theorem okPack1_false_bit {m k : Nat} {xs : List Nat} (hk : m ≤ k) (h : bitOf xs k = true) : okPack 1 (m : Int) xs = false := by
  by_cases hm : m ≤ 65536
  · cases hc : okPack 1 (m : Int) xs
    · rfl
    · rw [isPack_beyond ((okPack_nat (wd := 1) (n := m) xs (by decide) hm).1 hc) k hk] at h; cases h
  · exact okPack_not _ (by omega)

set_option maxHeartbeats 1000000 in
theorem refIsBitmap_any (v : Value) (xs : List Nat) (n : Int) (w : World) (hx : Rd w v xs.length 1 (u64s xs)) (hv : ∀ x ∈ xs, x < 18446744073709551616) (hl : xs.length ≤ maxLen) :
    Calls Tryz.prog 24 #[v, .int .i64 n] w fun e w' => e = .returned (.bool (okPack 1 n xs)) ∧ w' = w := by
  have HX := hid hx; have HV := hid hv; have HL := hid hl
  unfold maxLen at hl
  obtain ⟨A, ca, rfl, hlc, hcm, hA⟩ := hx.form
  clear hx hv hA hlc hcm
  obtain ⟨ok, hok⟩ : ∃ ok, okPack 1 n xs = ok := ⟨_, rfl⟩
  rw [hok]
  have HOK := hid hok
  clear hok
  go_enter Tryz.func24, Tryz.ntmps24
  by_cases h0 : n < 0
  · go_wp2
    go_ret
    exact ⟨ret_bool (by rw [← HOK.out, okPack_not _ (by omega)]), rfl⟩
  by_cases h1 : 65536 < n
  · go_wp2
    go_ret
    exact ⟨ret_bool (by rw [← HOK.out, okPack_not _ (by omega)]), rfl⟩
  obtain ⟨m, rfl⟩ := Int.eq_ofNat_of_zero_le (show 0 ≤ n by omega)
  obtain ⟨q, hq⟩ : ∃ q, (m + 63) / 64 = q := ⟨_, rfl⟩
  have hq' : ((m : Int) + 63) / 64 = (q : Int) := by omega
  have hm64 : m ≤ 64 * q := by omega
  have hq2 : q ≤ 1024 := by omega
  have HQ := hid hq
  clear hq
  by_cases hlq : xs.length = q
  · have HLQ := hid hlq
    rw [hlq]
    clear hlq
    go_wp2
    go_loop [5] (fun i => ∃ j : Nat, m ≤ j ∧ j ≤ 64 * q ∧ i = .int .i64 j ∧ Hid (∀ k, m ≤ k → k < j → bitOf xs k = false)) (fun i => 64 * q - (intOf i).toNat)
    case atStart => exact ⟨m, by omega, by omega, rfl, hid (by intro k h1 h2; omega)⟩
    case round =>
      obtain ⟨j, hj1, hj2, rfl, HB⟩ := hrel
      by_cases hlt : j < 64 * q
      · have HC := hid (bitAt_any (.slice A q ca) xs j w (by rw [← HLQ.out]; exact HX.out) HV.out HL.out (by omega))
        obtain ⟨bb, hbb⟩ : ∃ bb, bitOf xs j = bb := ⟨_, rfl⟩
        rw [hbb] at HC
        have HBB := hid hbb
        clear hbb
        cases bb
        · go_wp2_with (go_at_call 27; refine HC.out.mono ?_; rintro e w' ⟨rfl, rfl⟩)
          go_round
          case rel =>
            refine ⟨j + 1, by omega, by omega, by go_num, hid ?_⟩
            intro k hk1 hk2
            rcases Nat.lt_succ_iff_lt_or_eq.1 hk2 with h | h
            · exact HB.out k hk1 h
            · rw [h]; exact HBB.out
          case measure => simp [intOf]; omega
        · go_wp2_with (go_at_call 27; refine HC.out.mono ?_; rintro e w' ⟨rfl, rfl⟩)
          go_ret
          exact ⟨ret_bool (by rw [← HOK.out, okPack1_false_bit hj1 HBB.out]), rfl⟩
      · go_wp2
        go_ret
        refine ⟨ret_bool ?_, rfl⟩
        rw [← HOK.out]
        exact Eq.symm ((okPack_nat (wd := 1) (n := m) xs (by decide) (by omega)).2 (isPack_of_bits (by rw [nWords1, HLQ.out, HQ.out]) HV.out (fun i h1 h2 => HB.out i h1 (by rw [HLQ.out] at h2; omega))))
  · have HLQ := hid hlq
    go_wp2
    go_ret
    exact ⟨ret_bool (by rw [← HOK.out, okPack1_false_len (by rw [HQ.out]; exact HLQ.out)]), rfl⟩

/-- the places below n at which a bit is set -/
def idxN (ws : List Nat) (n : Nat) : List Nat := (List.range n).filter (bitOf ws)
def ints (l : List Nat) : List Value := l.map fun n : Nat => Value.int .i64 (n : Int)
theorem idxN_length (ws : List Nat) (n : Nat) : (idxN ws n).length = rankN ws n := rfl
theorem idxN_snoc (ws : List Nat) (n : Nat) : idxN ws (n + 1) = idxN ws n ++ if bitOf ws n then [n] else [] := by
  unfold idxN
  rw [List.range_succ, List.filter_append]
  cases h : bitOf ws n <;> simp [List.filter_cons, h]
theorem idxN_le (ws : List Nat) (n : Nat) : (idxN ws n).length ≤ n := by
  have := List.length_filter_le (bitOf ws) (List.range n)
  rwa [List.length_range] at this
theorem Tryz.infoInt : (Tryz.prog.info? 3).map (fun i => (i.zero, i.size, i.bytes)) = some (some (.int .i64 0), 1, 8) := by kernel_rfl
theorem ints_snoc (l : List Nat) (x : Nat) : ints (l ++ [x]) = ints l ++ [.int .i64 (x : Int)] := by simp [ints]
/-- what Indexes answers -/
def idxR (n : Int) (xs : List Nat) : List Nat := if okPack 1 n xs = true then idxN xs n.toNat else []

end Go.Proofs.YtdlkdiaobbakiaaGreatDoor
