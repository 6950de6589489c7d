/- Package scan: is a query well-typed: kinds, columns, aggregates. -/
import Derived.Test.YtioaeijogjcghaaQry
set_option linter.unusedVariables false
set_option linter.unusedSimpArgs false
set_option linter.unnecessarySimpa false
set_option maxRecDepth 20000
namespace Go.Proofs.Ytioaeijogjcghaa
open Go.RowKit

def kindsOk (ks : List Int) : Bool := decide (1 ≤ ks.length) && decide (ks.length ≤ 16) && ks.all isKind
def colOk (n : Nat) (c : Int) : Bool := decide (0 ≤ c) && decide (c < n)
def colsOk (n : Nat) (cs : List Int) : Bool := decide (cs.length ≤ 32) && cs.all (colOk n)
def aggOk (ks : List Int) (a : Ag) : Bool :=
  if a.fn = 1 then decide (a.col = 0) else if a.fn = 3 then colOk ks.length a.col && decide (ks.getD a.col.toNat 0 = 1) else if a.fn = 2 ∨ a.fn = 4 ∨ a.fn = 5 then colOk ks.length a.col else false
def aggsOk (ks : List Int) (L : List Ag) : Bool := decide (L.length ≤ 32) && L.all (aggOk ks)
set_option maxHeartbeats 1000000 in
theorem isColumn_any (v : Value) (ks : List Int) (c : Int) (w : World) (hx : Rd w v ks.length 1 (i64s ks)) : Calls Try.prog 50 #[v, .int .i64 c] w fun e w' => e = .returned (.bool (colOk ks.length c)) ∧ w' = w := by
  obtain ⟨A, ca, rfl, _, _, _⟩ := hx.form
  clear hx
  unfold colOk
  go_enter Try.func50, Try.ntmps50
  by_cases h0 : 0 ≤ c
  · by_cases h1 : c < (ks.length : Int)
    · go_wp2_with fail
      go_ret
      exact ⟨ret_bool (by simp [h0, h1]), rfl⟩
    · go_wp2_with fail
      go_ret
      exact ⟨ret_bool (by simp [h0]; omega), rfl⟩
  · go_wp2_with fail
    go_ret
    exact ⟨ret_bool (by simp; omega), rfl⟩
set_option maxHeartbeats 1000000 in
theorem areKinds_any (v : Value) (ks : List Int) (w : World) (hx : Rd w v ks.length 1 (i64s ks)) : Calls Try.prog 22 #[v] w fun e w' => e = .returned (.bool (kindsOk ks)) ∧ w' = w := by
  have HX := hid hx
  obtain ⟨A, ca, rfl, hlc, hcm, _⟩ := hx.form
  clear hx
  obtain ⟨R, hR⟩ : ∃ R, kindsOk ks = R := ⟨_, rfl⟩
  rw [hR]
  have HR := hid hR
  clear hR
  obtain ⟨q, hq⟩ : ∃ q, ks.length = q := ⟨_, rfl⟩
  have HQ := hid hq
  rw [hq] at HX hlc ⊢
  clear hq
  unfold maxLen at hcm
  go_enter Try.func22, Try.ntmps22
  by_cases h1 : 1 ≤ q
  rotate_left
  · obtain rfl : R = false := by rw [← HR.out]; unfold kindsOk; rw [HQ.out]; simp [h1]
    go_wp2_with fail
    go_ret
    exact ⟨rfl, rfl⟩
  by_cases h2 : q ≤ 16
  rotate_left
  · obtain rfl : R = false := by rw [← HR.out]; unfold kindsOk; rw [HQ.out]; simp [h2]
    go_wp2_with fail
    go_ret
    exact ⟨rfl, rfl⟩
  go_wp2_with fail
  go_loop [15] (fun i => ∃ t : Nat, t ≤ q ∧ i = .int .i64 t ∧ Hid (∀ u, u < t → isKind (ks.getD u 0) = true)) (fun i => q - (intOf i).toNat)
  case atStart => exact ⟨0, by omega, rfl, hid (fun u h => absurd h (Nat.not_lt_zero u))⟩
  case round =>
    obtain ⟨t, ht, rfl, HALL⟩ := hrel
    by_cases hlt : t < q
    · obtain ⟨b, o, rfl, hs⟩ := HX.out.at (by omega)
      have c1 := hs.int t (by rw [HQ.out]; exact hlt)
      have HB : Hid (isKind (ks.getD t 0) = false → R = false) := hid (fun h => by
        rw [← HR.out]; unfold kindsOk
        rw [all_not 0 t (by rw [HQ.out]; exact hlt) h, Bool.and_false])
      have HS : Hid (isKind (ks.getD t 0) = true → ∀ u, u < t + 1 → isKind (ks.getD u 0) = true) := hid (fun h u hu => by
        by_cases hut : u = t
        · subst hut; exact h
        · exact HALL.out u (by omega))
      have HK := hid (isKindA (ks.getD t 0) w)
      clear hs
      generalize ks.getD t 0 = x at *
      generalize isKind x = kx at *
      cases kx
      · obtain rfl : R = false := HB.out rfl
        go_wp2_with (go_at_call 39; refine HK.out.mono ?_; rintro e w2 ⟨rfl, rfl⟩)
        go_ret
        exact ⟨rfl, rfl⟩
      · have HS2 := hid (HS.out rfl)
        go_wp2_with (go_at_call 39; refine HK.out.mono ?_; rintro e w2 ⟨rfl, rfl⟩)
        go_round
        case rel => exact ⟨t + 1, by omega, by go_num, HS2⟩
        case measure => simp [intOf]; omega
    · obtain rfl : t = q := by omega
      obtain rfl : R = true := by
        rw [← HR.out]; unfold kindsOk
        rw [all_of (L := ks) (p := isKind) 0 (fun k hk => HALL.out k (by rw [← HQ.out]; exact hk)), HQ.out]
        simp [h1, h2]
      go_wp2_with fail
      go_ret
      exact ⟨rfl, rfl⟩
set_option maxHeartbeats 1000000 in
theorem areCols_any (v0 v : Value) (ks cs : List Int) (w : World) (hk : Rd w v0 ks.length 1 (i64s ks)) (hx : Rd w v cs.length 1 (i64s cs)) : Calls Try.prog 40 #[v0, v] w fun e w' => e = .returned (.bool (colsOk ks.length cs)) ∧ w' = w := by
  have HX := hid hx
  have HIC := hid (fun (c : Int) => isColumn_any v0 ks c w hk)
  obtain ⟨A, ca, rfl, hlc, hcm, _⟩ := hx.form
  clear hx hk
  obtain ⟨R, hR⟩ : ∃ R, colsOk ks.length cs = R := ⟨_, rfl⟩
  rw [hR]
  have HR := hid hR
  clear hR
  obtain ⟨q, hq⟩ : ∃ q, cs.length = q := ⟨_, rfl⟩
  have HQ := hid hq
  rw [hq] at HX hlc ⊢
  clear hq
  unfold maxLen at hcm
  go_enter Try.func40, Try.ntmps40
  by_cases h2 : q ≤ 32
  rotate_left
  · obtain rfl : R = false := by rw [← HR.out]; unfold colsOk; rw [HQ.out]; simp [h2]
    go_wp2_with fail
    go_ret
    exact ⟨rfl, rfl⟩
  go_wp2_with fail
  go_loop [12] (fun i => ∃ t : Nat, t ≤ q ∧ i = .int .i64 t ∧ Hid (∀ u, u < t → colOk ks.length (cs.getD u 0) = true)) (fun i => q - (intOf i).toNat)
  case atStart => exact ⟨0, by omega, rfl, hid (fun u h => absurd h (Nat.not_lt_zero u))⟩
  case round =>
    obtain ⟨t, ht, rfl, HALL⟩ := hrel
    by_cases hlt : t < q
    · obtain ⟨b, o, rfl, hs⟩ := HX.out.at (by omega)
      have c1 := hs.int t (by rw [HQ.out]; exact hlt)
      have HB : Hid (colOk ks.length (cs.getD t 0) = false → R = false) := hid (fun h => by
        rw [← HR.out]; unfold colsOk
        rw [all_not 0 t (by rw [HQ.out]; exact hlt) h, Bool.and_false])
      have HS : Hid (colOk ks.length (cs.getD t 0) = true → ∀ u, u < t + 1 → colOk ks.length (cs.getD u 0) = true) := hid (fun h u hu => by
        by_cases hut : u = t
        · subst hut; exact h
        · exact HALL.out u (by omega))
      have HK := hid (HIC.out (cs.getD t 0))
      clear hs
      generalize cs.getD t 0 = x at *
      generalize colOk ks.length x = kx at *
      cases kx
      · obtain rfl : R = false := HB.out rfl
        go_wp2_with (go_at_call 50; refine HK.out.mono ?_; rintro e w2 ⟨rfl, rfl⟩)
        go_ret
        exact ⟨rfl, rfl⟩
      · have HS2 := hid (HS.out rfl)
        go_wp2_with (go_at_call 50; refine HK.out.mono ?_; rintro e w2 ⟨rfl, rfl⟩)
        go_round
        case rel => exact ⟨t + 1, by omega, by go_num, HS2⟩
        case measure => simp [intOf]; omega
    · obtain rfl : t = q := by omega
      obtain rfl : R = true := by
        rw [← HR.out]; unfold colsOk
        rw [all_of (L := cs) (p := colOk ks.length) 0 (fun k hk => HALL.out k (by rw [← HQ.out]; exact hk)), HQ.out]
        simp [h2]
      go_wp2_with fail
      go_ret
      exact ⟨rfl, rfl⟩
theorem colOk_nat {n : Nat} {c : Int} (h : colOk n c = true) : ∃ k : Nat, c = k ∧ k < n := by
  unfold colOk at h
  simp only [Bool.and_eq_true, decide_eq_true_eq] at h
  obtain ⟨k, rfl⟩ := Int.eq_ofNat_of_zero_le h.1
  exact ⟨k, rfl, by omega⟩
set_option maxHeartbeats 2000000 in
theorem isAgg_any (v0 : Value) (ks : List Int) (fn col : Int) (w : World) (hk : Rd w v0 ks.length 1 (i64s ks)) : Calls Try.prog 51 #[v0, .agg #[.int .i64 fn, .int .i64 col]] w fun e w' => e = .returned (.bool (aggOk ks ⟨fn, col⟩)) ∧ Below w.heap.size w w' := by
  have HK := hid hk
  obtain ⟨A, ca, rfl, hlc, hcm, _⟩ := hk.form
  clear hk
  obtain ⟨ro, hbo⟩ := fresh (w := w) (C := #[.int .i64 fn, .int .i64 col]) (e := 48)
  have HRO := hid ro; have HBO := hid hbo
  have HIC := hid (fun (w2 : World) (hb : Below w.heap.size w w2) => isColumn_any (.slice A ks.length ca) ks col w2 (HK.out.mono hb))
  obtain ⟨R, hR⟩ : ∃ R, aggOk ks ⟨fn, col⟩ = R := ⟨_, rfl⟩
  rw [hR]
  unfold aggOk at hR
  have HR := hid hR
  clear ro hbo hR
  go_enter Try.func51, Try.ntmps51
  go_upto_region 1 with fail
  generalize w.alloc (.cells #[.int .i64 fn, .int .i64 col] 48) = w0 at *
  obtain ⟨k0, k1⟩ := cellP HRO.out
  by_cases h1 : fn = 1
  · subst h1
    by_cases h : col = 0
    · obtain rfl : R = true := by rw [← HR.out]; simp [h]
      go_wp2_with fail
      go_ret
      exact ⟨rfl, HBO.out⟩
    · obtain rfl : R = false := by rw [← HR.out]; simp [h]
      have e0 : (col == 0) = false := by simp [h]
      go_wp2_with fail
      go_ret
      exact ⟨ret_bool (by simp [h]), HBO.out⟩
  have e1 : (fn == 1) = false := by simp [h1]
  by_cases h3 : fn = 3
  · subst h3
    obtain ⟨C, hC⟩ : ∃ C, colOk ks.length col = C := ⟨_, rfl⟩
    rw [hC] at HIC
    cases C
    · obtain rfl : R = false := by rw [← HR.out]; simp [hC]
      go_wp2_with (go_at_call 50; refine (HIC.out _ HBO.out).mono ?_; rintro e w2 ⟨rfl, rfl⟩)
      go_ret
      exact ⟨rfl, HBO.out⟩
    · obtain ⟨c, rfl, hc⟩ := colOk_nat hC
      obtain ⟨b, o, rfl, hs⟩ := (HK.out.mono HBO.out).at (by omega)
      have c1 := hs.int c hc
      have hc2 : (c : Int) < (ks.length : Int) := by omega
      have hR2 : R = decide (ks.getD c 0 = 1) := by rw [← HR.out]; simp [hC]
      have HR2 := hid hR2
      clear hs hC hR2 HR
      generalize ks.getD c 0 = x at *
      by_cases h : x = 1
      · obtain rfl : R = true := by rw [HR2.out]; simp [h]
        go_wp2_with (go_at_call 50; refine (HIC.out _ HBO.out).mono ?_; rintro e w2 ⟨rfl, rfl⟩)
        go_ret
        exact ⟨ret_bool (by simp [h]), HBO.out⟩
      · obtain rfl : R = false := by rw [HR2.out]; simp [h]
        go_wp2_with (go_at_call 50; refine (HIC.out _ HBO.out).mono ?_; rintro e w2 ⟨rfl, rfl⟩)
        go_ret
        exact ⟨ret_bool (by simp [h]), HBO.out⟩
  have e3 : (fn == 3) = false := by simp [h3]
  by_cases h245 : fn = 2 ∨ fn = 4 ∨ fn = 5
  · have hRC : R = colOk ks.length col := by rw [← HR.out, if_neg h1, if_neg h3, if_pos h245]
    obtain ⟨C, hC⟩ : ∃ C, colOk ks.length col = C := ⟨_, rfl⟩
    rw [hC] at HIC hRC
    clear HR hC
    subst hRC
    rcases h245 with rfl | rfl | rfl
    all_goals
      go_wp2_with (go_at_call 50; refine (HIC.out _ HBO.out).mono ?_; rintro e w2 ⟨rfl, rfl⟩)
      go_ret
      exact ⟨rfl, HBO.out⟩
  · obtain rfl : R = false := by rw [← HR.out, if_neg h1, if_neg h3, if_neg h245]
    have e2 : (fn == 2) = false := by simp; omega
    have e4 : (fn == 4) = false := by simp; omega
    have e5 : (fn == 5) = false := by simp; omega
    go_wp2_with fail
    go_ret
    exact ⟨rfl, HBO.out⟩
end Go.Proofs.Ytioaeijogjcghaa
