/- The plain answer's BloomHas and Bloom. -/
import Derived.Test.YtgobcaianpmbiaaBlr2
set_option linter.unusedVariables false
set_option linter.unusedSimpArgs false
set_option linter.unnecessarySimpa false
set_option maxRecDepth 20000
namespace Go.Proofs.Ytgobcaianpmbiaa
open Go.RowKit

theorem isKind_or {k : Int} (h : isKind k = true) : k = 1 ∨ k = 2 := by unfold isKind at h; simpa using h
set_option maxHeartbeats 2000000 in
theorem refBloomHas_any (v : Value) (xs : List Nat) (hs k : Int) (c : C3) (w : World) (hx : Rd w v xs.length 1 (u64s xs)) (hy : ∀ x ∈ xs, x < 18446744073709551616) (hl : xs.length ≤ 17592186044416) :
    Calls Try.prog 12 #[v, .int .i64 hs, .int .i64 k, c.v] w fun e w' => e = .returned (.bool (hasR xs hs k c)) ∧ Below w.heap.size w w' := by
  have HX : Hid (Rd w v xs.length 1 (u64s xs)) := hx
  have HBA := hid (fun (i : Nat) (w2 : World) (hb : Below w.heap.size w w2) (hi : i ≤ 9223372036854775807) => bitAt_any v xs i w2 (hx.mono hb) hy (by unfold maxLen; omega) hi)
  have HV := hid (fun w2 : World => refIsValue_any c k w2)
  have HP := hid (fun (hk : k = 1 ∨ k = 2) (hsz : c.s.size ≤ maxLen) (q : Nat) (hq : q ≤ 8) (h1 : 0 < xs.length) (h2 : xs.length ≤ 64) (w2 : World) => placesOf_any k c q xs.length w2 hk hsz hq h1 h2)
  obtain ⟨A, ca, rfl, hlc, hcm, hA⟩ := hx.form
  clear hx hA HX
  obtain ⟨R, hR⟩ : ∃ R, hasR xs hs k c = R := ⟨_, rfl⟩
  rw [hR]
  unfold hasR hasAll at hR
  obtain ⟨n, hn⟩ : ∃ n, xs.length = n := ⟨_, rfl⟩
  rw [hn] at hlc hl HP hR HBA ⊢
  clear hn hcm
  have HKI : Hid (isVal k c = true → (k = 1 ∨ k = 2) ∧ c.s.size ≤ 1024 ∧ c.n = false) := hid isVal_kind
  generalize hiv : isVal k c = iv at *
  clear hiv
  by_cases hf : 1 ≤ n ∧ n ≤ 64 ∧ 1 ≤ hs ∧ hs ≤ 8
  · have hfi : isFil n hs = true := by unfold isFil; simp; omega
    rw [hfi, Bool.true_and] at hR
    clear hfi
    obtain ⟨h1, h2, h3, h4⟩ := hf
    obtain ⟨q, rfl⟩ := Int.eq_ofNat_of_zero_le (show 0 ≤ hs by omega)
    rw [Int.toNat_natCast] at hR
    have hq : q ≤ 8 := by omega
    cases iv
    · rw [Bool.false_and] at hR
      subst hR
      clear HKI HP HBA
      obtain ⟨b, i, s⟩ := c
      unfold C3.v at *
      simp only at *
      go_enter Try.func12, Try.ntmps12
      go_wp2_with (go_at_call 31; refine (HV.out _).mono ?_; rintro e w1 ⟨rfl, hb1⟩; have HB1 := hid hb1; clear hb1)
      go_ret
      exact ⟨rfl, Below.trans ((brefl w).alloc (Nat.le_refl _) _) (HB1.out.mono (by simp))⟩
    · have hki := HKI.out rfl
      have HP2 := hid (HP.out hki.1 (by have := hki.2.1; unfold maxLen; omega) q hq h1 h2)
      have HRR : Hid (((placesN (hashC k c) q n).all (bitOf xs)) = R) := hid hR
      have HPL : Hid (∀ t, t < q → placeN (hashC k c) t n < 4096) := hid (fun t ht => by have := placeN_lt (hashC k c) t n h1; omega)
      clear HP HKI hki hR
      generalize hashC k c = h at *
      obtain ⟨b, i, s⟩ := c
      unfold C3.v at *
      simp only at *
      go_enter Try.func12, Try.ntmps12
      go_wp2_with (first | (go_at_call 31; refine (HV.out _).mono ?_; rintro e w1 ⟨rfl, hb1⟩; have HB1 : Hid (Below w.heap.size w w1) := hid (Below.trans ((brefl w).alloc (Nat.le_refl _) _) (hb1.mono (by simp))); obtain ⟨k0, k1, k2⟩ := kept3 hb1 (by simp); clear hb1) | (go_at_call 27; refine (HP2.out _).mono ?_; rintro e w2 ⟨r, rfl, ho, hb2⟩; have HB2 : Hid (Below w.heap.size w w2) := hid (Below.then' HB1.out hb2 HB1.out.size); obtain ⟨A2, ca2, rfl, _, _, hA2⟩ := (owns_rd ho).form; have HA2 := hid hA2; clear ho hb2 hA2))
      go_loopw [40] (fun i wr => ∃ t : Nat, t ≤ q ∧ i = .int .i64 t ∧ Hid (∀ u, u < t → bitOf xs (placeN h u n) = true) ∧ wr = w2) (fun i _ => q - (intOf i).toNat)
      case atStart => exact ⟨0, by omega, rfl, hid (fun u hu => absurd hu (Nat.not_lt_zero u)), rfl⟩
      case round =>
        obtain ⟨t, ht, rfl, hall, rfl⟩ := hrel
        by_cases hlt : t < q
        · obtain ⟨b', o, rfl, hs'⟩ := HA2.out (by omega)
          have hc := hs'.int t (by rw [placesI_length]; exact hlt)
          rw [placesI_get h q n t hlt] at hc
          have hp := HPL.out t hlt
          have HYES : Hid (bitOf xs (placeN h t n) = true → ∀ u, u < t + 1 → bitOf xs (placeN h u n) = true) := hid (fun hb u hu => by
            by_cases hut : u = t
            · subst hut; exact hb
            · exact hall.out u (by omega))
          have HNO : Hid (bitOf xs (placeN h t n) = false → R = false) := hid (fun hb => by
            rw [← HRR.out, ← Bool.not_eq_true]
            intro hall2
            simp only [List.all_eq_true] at hall2
            have := hall2 (placeN h t n) (by simp only [placesN, List.mem_map, List.mem_range]; exact ⟨t, hlt, rfl⟩)
            rw [hb] at this; cases this)
          have HBT := hid (HBA.out (placeN h t n) wr HB2.out (by omega))
          clear hs'
          generalize placeN h t n = p at *
          generalize bitOf xs p = bb at *
          cases bb
          · have HNO2 := hid (HNO.out rfl)
            go_wp2_with (go_at_call 32; refine HBT.out.mono ?_; rintro e w4 ⟨rfl, hw⟩; replace hw := hw.symm; subst hw)
            go_ret
            exact ⟨ret_bool HNO2.out.symm, HB2.out⟩
          · have HYES2 := hid (HYES.out rfl)
            go_wp2_with (go_at_call 32; refine HBT.out.mono ?_; rintro e w4 ⟨rfl, hw⟩; replace hw := hw.symm; subst hw)
            go_roundw
            case rel => exact ⟨t + 1, by omega, by go_num, HYES2, by first | rfl | trivial⟩
            case measure => simp [intOf]; omega
        · obtain rfl : t = q := by omega
          have HT : Hid (R = true) := hid (by
            rw [← HRR.out]
            simp only [List.all_eq_true, placesN, List.mem_map, List.mem_range]
            rintro x ⟨u, hu, rfl⟩
            exact hall.out u hu)
          go_wp2
          go_ret
          exact ⟨ret_bool HT.out.symm, HB2.out⟩
  · have hfi : isFil n hs = false := by unfold isFil; simp; omega
    rw [hfi, Bool.false_and, Bool.false_and] at hR
    subst hR
    clear HKI HP HBA HV hfi
    obtain ⟨b, i, s⟩ := c
    unfold C3.v at *
    simp only at *
    by_cases g1 : n < 1
    · have g1' : (n : Int) < 1 := by omega
      go_enter Try.func12, Try.ntmps12
      go_wp2
      go_ret
      exact ⟨rfl, (brefl w).alloc (Nat.le_refl _) _⟩
    have g1' : ¬ (n : Int) < 1 := by omega
    by_cases g2 : n > 64
    · have g2' : (n : Int) > 64 := by omega
      go_enter Try.func12, Try.ntmps12
      go_wp2
      go_ret
      exact ⟨rfl, (brefl w).alloc (Nat.le_refl _) _⟩
    have g2' : ¬ (n : Int) > 64 := by omega
    by_cases g3 : hs < 1
    · go_enter Try.func12, Try.ntmps12
      go_wp2
      go_ret
      exact ⟨rfl, (brefl w).alloc (Nat.le_refl _) _⟩
    have g4 : hs > 8 := by omega
    go_enter Try.func12, Try.ntmps12
    go_wp2
    go_ret
    exact ⟨rfl, (brefl w).alloc (Nat.le_refl _) _⟩
end Go.Proofs.Ytgobcaianpmbiaa
