/- The document's Check: leaves, nodes, the form of the filter by recursion. -/
import Derived.Test.YtioaeijogjcghaaCkd
set_option linter.unusedVariables false
set_option linter.unusedSimpArgs false
set_option linter.unnecessarySimpa false
set_option maxRecDepth 20000
namespace Go.Proofs.Ytioaeijogjcghaa
open Go.RowKit

/-- what subtree's answer s for the first k nodes says -/
structure SubP (L : List Nd) (k : Nat) (s : Int) : Prop where
  least : -1 ≤ s
  most : s < k ∨ s = -1
  fwd : ∀ l : Int, leftN L k = some l → 0 < k → 0 ≤ s ∧ leftN L s.toNat = some (l - 1)
  bwd : ∀ l0 : Int, 0 ≤ s → leftN L s.toNat = some l0 → leftN L k = some (l0 + 1)
theorem leftN_step (L : List Nd) (t : Nat) (l : Int) (h : leftN L (t + 1) = some l) : ∃ l', leftN L t = some l' ∧ opsN (L.getD t Nd.df).op ≤ l' ∧ l = l' + (1 - opsN (L.getD t Nd.df).op) := by
  simp only [leftN] at h
  cases hl : leftN L t with
  | none => rw [hl] at h; cases h
  | some l' =>
    rw [hl] at h
    simp only at h
    split at h
    · cases h
    · injection h with h
      exact ⟨l', rfl, by omega, h.symm⟩
theorem leftN_next (L : List Nd) (t : Nat) (l : Int) (h : leftN L t = some l) (hz : opsN (L.getD t Nd.df).op ≤ l) : leftN L (t + 1) = some (l + (1 - opsN (L.getD t Nd.df).op)) := by
  simp only [leftN, h]
  rw [if_neg (by omega)]
theorem leftN_pos (L : List Nd) (t : Nat) (l : Int) (h : leftN L (t + 1) = some l) : 1 ≤ l := by
  obtain ⟨l', _, h1, h2⟩ := leftN_step L t l h
  omega
theorem sub_leaf (L : List Nd) (k : Nat) (h : opsN (L.getD k Nd.df).op = 0) : SubP L (k + 1) k := by
  refine ⟨by omega, .inl (by omega), fun l hl _ => ⟨by omega, ?_⟩, fun l0 _ h0 => ?_⟩
  · obtain ⟨l', h1, _, h2⟩ := leftN_step L k l hl
    rw [Int.toNat_natCast, h1, h2, h]; congr 1; omega
  · rw [Int.toNat_natCast] at h0
    rw [leftN_next L k l0 h0 (by have := leftN_range L h0; omega), h]; rfl
theorem sub_not (L : List Nd) (k : Nat) (s : Int) (h : opsN (L.getD k Nd.df).op = 1) (hs : SubP L k s) : SubP L (k + 1) s := by
  refine ⟨hs.least, by have := hs.most; omega, fun l hl _ => ?_, fun l0 h0 hl => ?_⟩
  · obtain ⟨l', h1, h2, h3⟩ := leftN_step L k l hl
    have hk : 0 < k := by
      rcases Nat.eq_zero_or_pos k with rfl | h'
      · simp [leftN] at h1; omega
      · exact h'
    have := hs.fwd l' h1 hk
    rw [h] at h3
    rw [show l - 1 = l' - 1 by omega]
    exact this
  · have h1 := hs.bwd l0 h0 hl
    have h2 := leftN_range L hl
    rw [leftN_next L k _ h1 (by omega), h]; congr 1; omega
theorem sub_bin (L : List Nd) (k : Nat) (r s : Int) (h : opsN (L.getD k Nd.df).op = 2) (hr : SubP L k r) (h1 : ¬ r < 1) (hs : SubP L r.toNat s) : SubP L (k + 1) s := by
  refine ⟨hs.least, by have := hs.most; have := hr.most; omega, fun l hl _ => ?_, fun l0 h0 hl => ?_⟩
  · obtain ⟨l', e1, e2, e3⟩ := leftN_step L k l hl
    have hk : 0 < k := by
      rcases Nat.eq_zero_or_pos k with rfl | h'
      · simp [leftN] at e1; omega
      · exact h'
    obtain ⟨_, e4⟩ := hr.fwd l' e1 hk
    have := hs.fwd _ e4 (by omega)
    rw [h] at e3
    rw [show l - 1 = l' - 1 - 1 by omega]
    exact this
  · have e1 := hs.bwd l0 h0 hl
    have e2 := hr.bwd _ (by omega) e1
    have e3 := leftN_range L hl
    rw [leftN_next L k _ e2 (by omega), h]; congr 1; omega
theorem sub_binNo (L : List Nd) (k : Nat) (r : Int) (h : opsN (L.getD k Nd.df).op = 2) (hr : SubP L k r) (h1 : r < 1) : SubP L (k + 1) (-1) := by
  refine ⟨by omega, .inr rfl, fun l hl _ => ?_, fun l0 h0 hl => absurd h0 (by omega)⟩
  obtain ⟨l', e1, e2, e3⟩ := leftN_step L k l hl
  have hk : 0 < k := by
    rcases Nat.eq_zero_or_pos k with rfl | h'
    · simp [leftN] at e1; omega
    · exact h'
  obtain ⟨e5, e4⟩ := hr.fwd l' e1 hk
  have : r = 0 := by omega
  rw [this] at e4
  simp [leftN] at e4
  omega
theorem sub_zero (L : List Nd) : SubP L 0 (-1) := ⟨by omega, .inr rfl, fun l _ h => absurd h (by omega), fun l0 h _ => absurd h (by omega)⟩
theorem sub_gives (L : List Nd) (s : Int) (hs : SubP L L.length s) (h0 : 0 < L.length) : decide (s = 0) = givesB L := by
  unfold givesB
  cases hl : leftN L L.length with
  | none =>
    have : ¬ s = 0 := fun e => by
      have := hs.bwd 0 (by omega) (by rw [e]; rfl)
      rw [hl] at this; cases this
    simp [this]
  | some l =>
    simp only [show ¬ L.length = 0 by omega, decide_false, Bool.or_false]
    obtain ⟨h1, h2⟩ := hs.fwd l hl h0
    by_cases hs0 : s = 0
    · rw [hs0] at h2
      simp [leftN] at h2
      simp [hs0]; omega
    · obtain ⟨t, ht⟩ : ∃ t, s.toNat = t + 1 := ⟨s.toNat - 1, by omega⟩
      rw [ht] at h2
      have := leftN_pos L t _ h2
      simp [hs0]; omega
set_option maxHeartbeats 4000000 in
theorem subtree_any (v : Value) (L : List Nd) (w : World) (hx : NsIn w v L) : ∀ (k : Nat), k ≤ L.length → ∀ i : Int, i = (k : Int) - 1 → Calls Try.prog 27 #[v, .int .i64 i] w fun e w' => (∃ s, e = .returned (.int .i64 s) ∧ SubP L k s) ∧ w' = w := by
  intro k
  induction k using Nat.strongRecOn with
  | _ k ih =>
  intro hk i hi
  have HX := hid hx
  have HIH := hid ih
  obtain ⟨A, ca, rfl, hlc, hcm, _⟩ := hx
  clear ih
  unfold maxLen at hcm
  cases k with
  | zero =>
    obtain rfl : i = -1 := by omega
    clear hi
    go_enter Try.func27, Try.ntmps27
    go_wp2_with fail
    go_ret
    exact ⟨⟨-1, rfl, sub_zero L⟩, rfl⟩
  | succ k =>
    obtain rfl : i = (k : Int) := by omega
    clear hi
    obtain ⟨b, o, B, c, rfl, c0, c1, c2, hr⟩ := HX.out.at k (by omega)
    have hkl : (k : Int) < (L.length : Int) := by omega
    have hk0 : (0 : Int) ≤ (k : Int) := by omega
    have HIHk := hid (HIH.out k (by omega) (by omega) ((k : Int) - 1) rfl)
    have HLF := hid (sub_leaf L k)
    have HNT := hid (sub_not L k)
    have HBN := hid (sub_bin L k)
    have HBO := hid (sub_binNo L k)
    clear hr c1 c2
    generalize (L.getD k Nd.df).op = op at *
    obtain ⟨n, hn⟩ : ∃ n, L.length = n := ⟨_, rfl⟩
    have HN := hid hn
    rw [hn] at HIH hkl hk hlc ⊢
    rw [hn] at HIHk
    clear hn
    go_enter Try.func27, Try.ntmps27
    by_cases h12 : op = 12
    · subst h12
      go_wp2_with (go_at_call 27; refine HIHk.out.mono ?_; rintro e w2 ⟨⟨s, rfl, hs⟩, rfl⟩)
      go_ret
      exact ⟨⟨s, rfl, HNT.out s rfl hs⟩, rfl⟩
    have e12 : (op == 12) = false := by simp [h12]
    by_cases h1011 : op = 10 ∨ op = 11
    · have HBN2 := hid (fun r s hr h1 hs => HBN.out r s (by rcases h1011 with h | h <;> subst h <;> rfl) hr h1 hs)
      have HBO2 := hid (fun r hr h1 => HBO.out r (by rcases h1011 with h | h <;> subst h <;> rfl) hr h1)
      have HIH2 := hid (fun (r : Int) (h1 : ¬ r < 1) (hm : r < k ∨ r = -1) => HIH.out r.toNat (by omega) (by omega) (r - 1) (by omega))
      clear HBN HBO HLF HNT HIH
      rcases h1011 with rfl | rfl
      all_goals
        go_upto_region 9 with (go_at_call 27; refine HIHk.out.mono ?_; rintro e w2 ⟨⟨r, rfl, hr⟩, rfl⟩; have HRS := hid hr; clear hr)
        by_cases hr1 : r < 1
        · go_wp2_with fail
          go_ret
          exact ⟨⟨-1, rfl, HBO2.out r HRS.out hr1⟩, rfl⟩
        · have hrm := HRS.out.most
          have hrl := HRS.out.least
          have HIHr := hid (HIH2.out r (by omega) hrm)
          go_wp2_with (go_at_call 27; refine HIHr.out.mono ?_; rintro e w3 ⟨⟨s, rfl, hs⟩, rfl⟩)
          go_ret
          exact ⟨⟨s, rfl, HBN2.out r s HRS.out (by omega) hs⟩, rfl⟩
    · have e10 : (op == 10) = false := by simp; omega
      have e11 : (op == 11) = false := by simp; omega
      have HLF2 := hid (HLF.out (by unfold opsN; rw [if_neg h12, if_neg h1011]))
      go_wp2_with fail
      go_ret
      exact ⟨⟨_, rfl, HLF2.out⟩, rfl⟩
end Go.Proofs.Ytioaeijogjcghaa
