/- BloomHas, in the code and in the plain answer; the plain answer's Bloom. -/
import Derived.Test.YtgobcaianpmbiaaBlr
set_option linter.unusedVariables false
set_option linter.unusedSimpArgs false
set_option linter.unnecessarySimpa false
set_option maxRecDepth 20000
namespace Go.Proofs.Ytgobcaianpmbiaa
open Go.RowKit

def hasR (xs : List Nat) (hs k : Int) (c : C3) : Bool := isFil xs.length hs && isVal k c && hasAll xs (hashC k c) hs.toNat
theorem isVal_kind {k : Int} {c : C3} (h : isVal k c = true) : (k = 1 ∨ k = 2) ∧ c.s.size ≤ 1024 ∧ c.n = false := by
  unfold isVal at h
  simp only [Bool.and_eq_true, Bool.not_eq_true'] at h
  refine ⟨?_, ofK_size h.2, h.1⟩
  have h2 := h.2
  unfold ofK at h2
  rw [if_neg (by rw [h.1]; simp)] at h2
  by_cases h1 : k = 1
  · exact .inl h1
  · rw [if_neg h1] at h2; simp only [decide_eq_true_eq] at h2; exact .inr h2.1
set_option maxHeartbeats 1000000 in
theorem BloomHas_any (v : Value) (xs : List Nat) (hs k : Int) (c : C3) (w : World) (hx : Rd w v xs.length 1 (u64s xs)) (hy : ∀ x ∈ xs, x < 18446744073709551616) (hl : xs.length ≤ 17592186044416 + 1024) :
    Calls Try.prog 10 #[v, .int .i64 hs, .int .i64 k, c.v] w fun e w' => e = .returned (.bool (hasR xs hs k c)) ∧ Below w.heap.size w w' := by
  have HF := hid (fun w2 : World => isFilter_any xs.length hs w2)
  have HV := hid (fun w2 : World => isValue_any c k w2)
  have HHO := hid (fun (h : c.s.size ≤ 1024) (w2 : World) => hashOf_any k c w2 h)
  have HHA := hid (fun (h1 : 0 < xs.length) (h2 : xs.length ≤ 64) (q : Nat) (h3 : q ≤ 8) (h : Nat) (h4 : h < 18446744073709551616) (w2 : World) (hb : Below w.heap.size w w2) => hasHash_any v xs q h w2 (hx.mono hb) h1 h2 h3 h4 hy)
  obtain ⟨A, ca, rfl, hlc, hcm, hA⟩ := hx.form
  clear hx hA
  obtain ⟨R, hR⟩ : ∃ R, hasR xs hs k c = R := ⟨_, rfl⟩
  rw [hR]
  unfold hasR at hR
  obtain ⟨n, hn⟩ : ∃ n, xs.length = n := ⟨_, rfl⟩
  rw [hn] at hlc hl HF HHA hR ⊢
  have HKI : Hid (isVal k c = true → (k = 1 ∨ k = 2) ∧ c.s.size ≤ 1024 ∧ c.n = false) := hid isVal_kind
  have HLT : Hid (hashC k c < 18446744073709551616) := hid (hashL_lt (bytesC k c))
  have HFI : Hid (isFil n hs = true → 1 ≤ n ∧ n ≤ 64 ∧ 1 ≤ hs ∧ hs ≤ 8) := hid (fun h => by unfold isFil at h; simp at h; omega)
  generalize hiv : isVal k c = iv at *
  generalize hfv : isFil n hs = fv at *
  clear hiv hfv hn
  cases fv
  · simp only [Bool.false_and] at hR
    subst hR
    clear HKI HFI HLT HHO HHA
    obtain ⟨b, i, s⟩ := c
    unfold C3.v at *
    simp only at *
    go_enter Try.func10, Try.ntmps10
    go_wp2_with (go_at_call 22; refine (HF.out _).mono ?_; rintro e w1 ⟨rfl, hw⟩; replace hw := hw.symm; subst hw)
    go_ret
    exact ⟨rfl, (brefl w).alloc (Nat.le_refl _) _⟩
  cases iv
  · simp only [Bool.false_and, Bool.and_false] at hR
    subst hR
    clear HKI HFI HLT HHO HHA
    obtain ⟨b, i, s⟩ := c
    unfold C3.v at *
    simp only at *
    go_enter Try.func10, Try.ntmps10
    go_wp2_with (first | (go_at_call 22; refine (HF.out _).mono ?_; rintro e w1 ⟨rfl, hw⟩; replace hw := hw.symm; subst hw) | (go_at_call 29; refine (HV.out _).mono ?_; rintro e w1 ⟨rfl, hb1⟩; have HB1 := hid hb1; clear hb1))
    go_ret
    exact ⟨rfl, Below.trans ((brefl w).alloc (Nat.le_refl _) _) (HB1.out.mono (by simp))⟩
  obtain ⟨h1, h2, h3, h4⟩ := HFI.out rfl
  obtain ⟨q, rfl⟩ := Int.eq_ofNat_of_zero_le (show 0 ≤ hs by omega)
  have HHO2 := hid (HHO.out (HKI.out rfl).2.1)
  have hq : q ≤ 8 := by omega
  have HHA2 := hid (HHA.out h1 h2 q hq _ HLT.out)
  simp only [Bool.true_and, Int.toNat_natCast] at hR
  rw [hR] at HHA2
  clear HHA HHO HKI HFI hR HLT
  generalize hashC k c = h at *
  obtain ⟨b, i, s⟩ := c
  unfold C3.v at *
  simp only at *
  go_enter Try.func10, Try.ntmps10
  go_wp2_with (first | (go_at_call 22; refine (HF.out _).mono ?_; rintro e w1 ⟨rfl, hw⟩; replace hw := hw.symm; subst hw) | (go_at_call 29; refine (HV.out _).mono ?_; rintro e w1 ⟨rfl, hb1⟩; have HB1 : Hid (Below w.heap.size w w1) := hid (Below.trans ((brefl w).alloc (Nat.le_refl _) _) (hb1.mono (by simp))); obtain ⟨k0, k1, k2⟩ := kept3 hb1 (by simp); clear hb1) | (go_at_call 24; refine (HHO2.out _).mono ?_; rintro e w2 ⟨rfl, hb2⟩; have HB2 : Hid (Below w.heap.size w w2) := hid (Below.then' HB1.out hb2 HB1.out.size); clear hb2) | (go_at_call 30; refine (HHA2.out _ HB2.out).mono ?_; rintro e w3 ⟨rfl, hw⟩; replace hw := hw.symm; subst hw))
  go_ret
  exact ⟨rfl, HB2.out⟩
end Go.Proofs.Ytgobcaianpmbiaa
