/- Package scan: is a query well-typed: aggregates, nodes. -/
import Derived.Test.YtioaeijogjcghaaCka
set_option linter.unusedVariables false
set_option linter.unusedSimpArgs false
set_option linter.unnecessarySimpa false
set_option maxRecDepth 20000
namespace Go.Proofs.Ytioaeijogjcghaa
open Go.RowKit

set_option maxHeartbeats 2000000 in
theorem areAggs_any (v0 v : Value) (ks : List Int) (L : List Ag) (w : World) (hk : Rd w v0 ks.length 1 (i64s ks)) (hx : Rd w v L.length 2 (ags L)) : Calls Try.prog 41 #[v0, v] w fun e w' => e = .returned (.bool (aggsOk ks L)) ∧ Below w.heap.size w w' := by
  have HX := hid hx
  have HIA := hid (fun (a : Ag) (w2 : World) (hb : Below w.heap.size w w2) => isAgg_any v0 ks a.fn a.col w2 (hk.mono hb))
  obtain ⟨A, ca, rfl, hlc, hcm, _⟩ := hx.form
  clear hx hk
  obtain ⟨R, hR⟩ : ∃ R, aggsOk ks L = R := ⟨_, rfl⟩
  rw [hR]
  have HR := hid hR
  clear hR
  obtain ⟨q, hq⟩ : ∃ q, L.length = q := ⟨_, rfl⟩
  have HQ := hid hq
  rw [hq] at HX hlc ⊢
  clear hq
  unfold maxLen at hcm
  go_enter Try.func41, Try.ntmps41
  by_cases h2 : q ≤ 32
  rotate_left
  · obtain rfl : R = false := by rw [← HR.out]; unfold aggsOk; rw [HQ.out]; simp [h2]
    go_wp2_with fail
    go_ret
    exact ⟨rfl, brefl w⟩
  go_wp2_with fail
  go_loopw [12] (fun i wr => ∃ t : Nat, t ≤ q ∧ i = .int .i64 t ∧ Hid (∀ u, u < t → aggOk ks (L.getD u Ag.df) = true) ∧ Hid (Below w.heap.size w wr)) (fun i _ => q - (intOf i).toNat)
  case atStart => exact ⟨0, by omega, rfl, hid (fun u h => absurd h (Nat.not_lt_zero u)), hid (brefl w)⟩
  case round =>
    obtain ⟨t, ht, rfl, HALL, HBW⟩ := hrel
    by_cases hlt : t < q
    · obtain ⟨b, o, rfl, hs⟩ := (HX.out.mono HBW.out).at (by omega)
      obtain ⟨c1, c2⟩ := hs.ag t (by rw [HQ.out]; exact hlt)
      have HB : Hid (aggOk ks (L.getD t Ag.df) = false → R = false) := hid (fun h => by
        rw [← HR.out]; unfold aggsOk
        rw [all_not Ag.df t (by rw [HQ.out]; exact hlt) h, Bool.and_false])
      have HS : Hid (aggOk ks (L.getD t Ag.df) = true → ∀ u, u < t + 1 → aggOk ks (L.getD u Ag.df) = true) := hid (fun h u hu => by
        by_cases hut : u = t
        · subst hut; exact h
        · exact HALL.out u (by omega))
      have HK := hid (fun (w2 : World) (hb : Below w.heap.size w w2) => HIA.out (L.getD t Ag.df) w2 hb)
      clear hs HIA
      generalize L.getD t Ag.df = x at *
      obtain ⟨fn, col⟩ := x
      simp only at c1 c2 HK
      generalize aggOk ks ⟨fn, col⟩ = kx at *
      have hwr := HBW.out.size
      cases kx
      · obtain rfl : R = false := HB.out rfl
        go_wp2_with (go_at_call 51; refine (HK.out _ (HBW.out.alloc HBW.out.size _)).mono ?_; rintro e w2 ⟨rfl, hb2⟩)
        go_ret
        exact ⟨rfl, Below.then' (HBW.out.alloc HBW.out.size _) hb2 (by simp; omega)⟩
      · have HS2 := hid (HS.out rfl)
        go_wp2_with (go_at_call 51; refine (HK.out _ (HBW.out.alloc HBW.out.size _)).mono ?_; rintro e w2 ⟨rfl, hb2⟩)
        go_roundw
        case rel => exact ⟨t + 1, by omega, by go_num, HS2, hid (Below.then' (HBW.out.alloc HBW.out.size _) hb2 (by simp; omega))⟩
        case measure => simp [intOf]; omega
    · obtain rfl : t = q := by omega
      obtain rfl : R = true := by
        rw [← HR.out]; unfold aggsOk
        rw [all_of (L := L) (p := aggOk ks) Ag.df (fun k hk => HALL.out k (by rw [← HQ.out]; exact hk)), HQ.out]
        simp [h2]
      go_wp2_with fail
      go_ret
      exact ⟨rfl, HBW.out⟩
/-- how many literals the first t nodes have -/
def argsN (L : List Nd) : Nat → Nat
  | 0 => 0
  | t + 1 => argsN L t + (L.getD t Nd.df).args.length
theorem argsN_mono (L : List Nd) {t u : Nat} (h : t ≤ u) : argsN L t ≤ argsN L u := by
  induction u with
  | zero => obtain rfl : t = 0 := by omega
            exact Nat.le_refl _
  | succ u ih =>
    by_cases htu : t = u + 1
    · subst htu; exact Nat.le_refl _
    · exact Nat.le_trans (ih (by omega)) (Nat.le_add_right _ _)
set_option maxHeartbeats 2000000 in
theorem countArgs_any (v : Value) (L : List Nd) (w : World) (hx : NsIn w v L) (hl : argsN L L.length ≤ 1048576) : Calls Try.prog 52 #[v] w fun e w' => e = .returned (.int .i64 (argsN L L.length : Nat)) ∧ Below w.heap.size w w' := by
  have HX := hid hx
  obtain ⟨A, ca, rfl, hlc, hcm, _⟩ := hx
  obtain ⟨q, hq⟩ : ∃ q, L.length = q := ⟨_, rfl⟩
  have HQ := hid hq
  rw [hq] at HX hlc hl ⊢
  clear hq
  unfold maxLen at hcm
  have HL := hid (fun t (h : t ≤ q) => Nat.le_trans (argsN_mono L h) hl)
  go_enter Try.func52, Try.ntmps52
  go_wp2_with fail
  go_loopw [3, 8] (fun s i wr => ∃ t : Nat, t ≤ q ∧ i = .int .i64 t ∧ s = .int .i64 (argsN L t : Nat) ∧ Hid (Below w.heap.size w wr)) (fun _ i _ => q - (intOf i).toNat)
  case atStart => exact ⟨0, by omega, rfl, rfl, hid (brefl w)⟩
  case round =>
    obtain ⟨t, ht, rfl, rfl, HBW⟩ := hrel
    by_cases hlt : t < q
    · obtain ⟨b, o, B, c, rfl, c0, c1, c2, hr⟩ := (HX.out.mono HBW.out).at t (by rw [HQ.out]; exact hlt)
      have hn : argsN L (t + 1) ≤ 1048576 := HL.out (t + 1) (by omega)
      have HN : Hid (argsN L (t + 1) = argsN L t + (L.getD t Nd.df).args.length) := hid rfl
      rw [HN.out] at hn
      clear hr
      generalize L.getD t Nd.df = x at *
      obtain ⟨op, col, args⟩ := x
      simp only at c0 c1 c2 hn HN
      generalize hal : args.length = al at *
      generalize hs : argsN L t = s at *
      have hwr := HBW.out.size
      go_wp2_with fail
      go_roundw
      case rel => exact ⟨t + 1, by omega, by go_num, by rw [HN.out]; go_num, hid (HBW.out.alloc HBW.out.size _)⟩
      case measure => simp [intOf]; omega
    · obtain rfl : t = q := by omega
      go_wp2_with fail
      go_ret
      exact ⟨rfl, HBW.out⟩
def takesB (op : Int) (n : Nat) : Bool := if op = 7 then decide (n ≤ 1024) else if op = 8 then decide (n = 2) else if op = 9 then decide (n = 0) else decide (1 ≤ op ∧ op ≤ 6) && decide (n = 1)
set_option maxHeartbeats 2000000 in
theorem takes_any (op : Int) (n : Nat) (w : World) : Calls Try.prog 59 #[.int .i64 op, .int .i64 n] w fun e w' => e = .returned (.bool (takesB op n)) ∧ w' = w := by
  obtain ⟨R, hR⟩ : ∃ R, takesB op n = R := ⟨_, rfl⟩
  rw [hR]
  unfold takesB at hR
  have HR := hid hR
  clear hR
  go_enter Try.func59, Try.ntmps59
  by_cases h7 : op = 7
  · subst h7
    by_cases h : n ≤ 1024
    · obtain rfl : R = true := by rw [← HR.out]; simp [h]
      go_wp2_with fail
      go_ret
      exact ⟨ret_bool (by simp; omega), rfl⟩
    · obtain rfl : R = false := by rw [← HR.out]; simp [h]
      go_wp2_with fail
      go_ret
      exact ⟨ret_bool (by simp; omega), rfl⟩
  by_cases h8 : op = 8
  · subst h8
    obtain rfl : R = decide (n = 2) := by rw [← HR.out]; simp
    go_wp2_with fail
    go_ret
    exact ⟨ret_bool (by by_cases h : n = 2 <;> simp [h] <;> omega), rfl⟩
  by_cases h9 : op = 9
  · subst h9
    obtain rfl : R = decide (n = 0) := by rw [← HR.out]; simp
    go_wp2_with fail
    go_ret
    exact ⟨ret_bool (by by_cases h : n = 0 <;> simp [h] <;> omega), rfl⟩
  have e7 : (op == 7) = false := by simp [h7]
  have e8 : (op == 8) = false := by simp [h8]
  have e9 : (op == 9) = false := by simp [h9]
  have hR2 : R = (decide (1 ≤ op ∧ op ≤ 6) && decide (n = 1)) := by rw [← HR.out, if_neg h7, if_neg h8, if_neg h9]
  have HR2 := hid hR2
  clear hR2 HR
  by_cases h1 : 1 ≤ op
  · by_cases h6 : op ≤ 6
    · by_cases hn : n = 1
      · subst hn
        obtain rfl : R = true := by rw [HR2.out]; simp [h1, h6]
        go_wp2_with fail
        go_ret
        exact ⟨ret_bool (by simp), rfl⟩
      · obtain rfl : R = false := by rw [HR2.out]; simp [hn]
        have en : ((n : Int) == 1) = false := by simp; omega
        go_wp2_with fail
        go_ret
        exact ⟨ret_bool (by simp [en]; try omega), rfl⟩
    · obtain rfl : R = false := by rw [HR2.out]; simp [h6]
      go_wp2_with fail
      go_ret
      exact ⟨ret_bool (by simp), rfl⟩
  · obtain rfl : R = false := by rw [HR2.out]; simp [h1]
    go_wp2_with fail
    go_ret
    exact ⟨ret_bool (by simp), rfl⟩
end Go.Proofs.Ytioaeijogjcghaa
