/- The document's Check: outputs, the whole. -/
import Derived.Test.YtioaeijogjcghaaCkg
set_option linter.unusedVariables false
set_option linter.unusedSimpArgs false
set_option linter.unnecessarySimpa false
set_option maxRecDepth 20000
namespace Go.Proofs.Ytioaeijogjcghaa
open Go.RowKit

theorem aggOk_cases (ks : List Int) (fn col : Int) (h0 : 0 < ks.length) :
    (fn < 1 ∨ 5 < fn ∨ col < 0 ∨ (ks.length : Int) ≤ col) ∧ aggOk ks ⟨fn, col⟩ = false ∨
    ∃ c : Nat, col = c ∧ c < ks.length ∧ 1 ≤ fn ∧ fn ≤ 5 ∧ ((fn = 1 ∧ aggOk ks ⟨fn, c⟩ = decide (c = 0)) ∨ (fn = 3 ∧ aggOk ks ⟨fn, c⟩ = decide (ks.getD c 0 = 1)) ∨ (¬ fn = 1 ∧ ¬ fn = 3 ∧ aggOk ks ⟨fn, c⟩ = true)) := by
  by_cases h : fn < 1 ∨ 5 < fn ∨ col < 0 ∨ (ks.length : Int) ≤ col
  · refine .inl ⟨h, ?_⟩
    unfold aggOk colOk
    by_cases h1 : fn = 1
    · simp only [h1, if_true]; simp; omega
    · by_cases h3 : fn = 3
      · simp only [h3]; simp; omega
      · by_cases h2 : fn = 2 ∨ fn = 4 ∨ fn = 5
        · simp only [h1, h3, h2, if_true, if_false]; simp; omega
        · simp only [h1, h3, h2, if_false]
  · refine .inr ?_
    obtain ⟨c, rfl⟩ := Int.eq_ofNat_of_zero_le (show 0 ≤ col by omega)
    have hc : c < ks.length := by omega
    have hcol : colOk ks.length (c : Int) = true := by unfold colOk; simp; omega
    refine ⟨c, rfl, hc, by omega, by omega, ?_⟩
    unfold aggOk
    by_cases h1 : fn = 1
    · refine .inl ⟨h1, ?_⟩
      simp only [h1, if_true]
      by_cases hc0 : c = 0 <;> simp [hc0]
    · by_cases h3 : fn = 3
      · refine .inr (.inl ⟨h3, ?_⟩)
        simp [h3, hcol]
      · refine .inr (.inr ⟨h1, h3, ?_⟩)
        have h2 : fn = 2 ∨ fn = 4 ∨ fn = 5 := by omega
        simp only [h1, h3, h2, if_true, if_false]
        exact hcol
def outOk (ks : List Int) (cs : List Int) (gs : List Ag) : Bool := !(decide (cs.length = 0) == decide (gs.length = 0)) && colsOk ks.length cs && aggsOk ks gs
set_option maxHeartbeats 8000000 in
theorem refOutputsOK_any (v0 wv cv av : Value) (ks : List Int) (cs : List Int) (gs : List Ag) (w : World) (h0 : 0 < ks.length) (hk : Rd w v0 ks.length 1 (i64s ks)) (hwv : ∃ A n c, wv = .slice A n c) (hc : Rd w cv cs.length 1 (i64s cs)) (ha : Rd w av gs.length 2 (ags gs)) :
    Calls Try.prog 26 #[v0, .agg #[wv, cv, av]] w fun e w' => e = .returned (.bool (outOk ks cs gs)) ∧ Below w.heap.size w w' := by
  obtain ⟨A1, n1, c1, rfl⟩ := hwv
  have HK := hid hk; have HC := hid hc; have HA := hid ha
  obtain ⟨A2, c2, rfl, hl2, hm2, _⟩ := hc.form
  obtain ⟨A3, c3, rfl, hl3, hm3, _⟩ := ha.form
  obtain ⟨A0, c0, rfl, _, _, _⟩ := hk.form
  clear hk hc ha
  obtain ⟨R, hR⟩ : ∃ R, outOk ks cs gs = R := ⟨_, rfl⟩
  rw [hR]
  unfold outOk colsOk aggsOk at hR
  have HR := hid hR
  clear hR
  obtain ⟨ro, hbo⟩ := fresh (w := w) (C := #[.slice A1 n1 c1, .slice A2 cs.length c2, .slice A3 gs.length c3]) (e := 26)
  have HRO := hid ro; have HBO := hid hbo
  clear ro hbo
  obtain ⟨n2, hn2⟩ : ∃ n, cs.length = n := ⟨_, rfl⟩
  obtain ⟨n3, hn3⟩ : ∃ n, gs.length = n := ⟨_, rfl⟩
  have HN2 := hid hn2; have HN3 := hid hn3
  rw [hn2] at HC HR HRO HBO hl2 ⊢
  rw [hn3] at HA HR HRO HBO hl3 ⊢
  clear hn2 hn3
  unfold maxLen at hm2 hm3
  have e2 : ((n2 : Int) == 0) = decide (n2 = 0) := by by_cases h : n2 = 0 <;> simp [h]
  have e3 : ((n3 : Int) == 0) = decide (n3 = 0) := by by_cases h : n3 = 0 <;> simp [h]
  go_enter Try.func26, Try.ntmps26
  go_upto_region 1 with fail
  generalize w.alloc (.cells #[.slice A1 n1 c1, .slice A2 n2 c2, .slice A3 n3 c3] 26) = w0 at *
  obtain ⟨k0, k1, k2⟩ := cell3 HRO.out
  generalize decide (n2 = 0) = d2 at *
  generalize decide (n3 = 0) = d3 at *
  by_cases hd : d2 = d3
  · subst hd
    obtain rfl : R = false := by rw [← HR.out]; simp
    go_wp2_with fail
    go_ret
    exact ⟨rfl, HBO.out⟩
  have ed : (d2 == d3) = false := by cases d2 <;> cases d3 <;> simp_all
  rw [ed] at HR
  clear hd
  by_cases h32 : n2 ≤ 32
  rotate_left
  · obtain rfl : R = false := by rw [← HR.out]; simp [h32]
    go_wp2_with fail
    go_ret
    exact ⟨rfl, HBO.out⟩
  by_cases h33 : n3 ≤ 32
  rotate_left
  · obtain rfl : R = false := by rw [← HR.out]; simp [h33]
    go_wp2_with fail
    go_ret
    exact ⟨rfl, HBO.out⟩
  have hR2 : R = (cs.all (colOk ks.length) && gs.all (aggOk ks)) := by rw [← HR.out]; simp [h32, h33]
  have HR2 := hid hR2
  clear hR2 HR
  go_wp2_with fail
  go_loop [33] (fun i => ∃ t : Nat, t ≤ n2 ∧ i = .int .i64 t ∧ Hid (∀ u, u < t → colOk ks.length (cs.getD u 0) = true)) (fun i => n2 - (intOf i).toNat)
  case atStart => exact ⟨0, by omega, rfl, hid (fun u h => absurd h (Nat.not_lt_zero u))⟩
  case round =>
    obtain ⟨t, ht, rfl, HALL⟩ := hrel
    by_cases hlt : t < n2
    · obtain ⟨b, o, rfl, hs⟩ := (HC.out.mono HBO.out).at (by omega)
      have m1 := hs.int t (by rw [HN2.out]; exact hlt)
      have HB : Hid (colOk ks.length (cs.getD t 0) = false → R = false) := hid (fun h => by
        rw [HR2.out, all_not 0 t (by rw [HN2.out]; exact hlt) h]; simp)
      have HS : Hid (colOk ks.length (cs.getD t 0) = true → ∀ u, u < t + 1 → colOk ks.length (cs.getD u 0) = true) := hid (fun h u hu => by
        by_cases hut : u = t
        · subst hut; exact h
        · exact HALL.out u (by omega))
      have HCO : Hid (colOk ks.length (cs.getD t 0) = (decide (0 ≤ cs.getD t 0) && decide (cs.getD t 0 < (ks.length : Int)))) := hid rfl
      clear hs
      generalize cs.getD t 0 = x at *
      generalize colOk ks.length x = kx at *
      by_cases hx0 : x < 0
      · obtain rfl : R = false := HB.out (by rw [HCO.out]; simp; omega)
        go_wp2_with fail
        go_ret
        exact ⟨rfl, HBO.out⟩
      by_cases hx1 : (ks.length : Int) ≤ x
      · obtain rfl : R = false := HB.out (by rw [HCO.out]; simp; omega)
        go_wp2_with fail
        go_ret
        exact ⟨rfl, HBO.out⟩
      · have HS2 := hid (HS.out (by rw [HCO.out]; simp; omega))
        go_wp2_with fail
        go_round
        case rel => exact ⟨t + 1, by omega, by go_num, HS2⟩
        case measure => simp [intOf]; omega
    · obtain rfl : t = n2 := by omega
      have hR3 : R = gs.all (aggOk ks) := by
        rw [HR2.out, all_of (L := cs) (p := colOk ks.length) 0 (fun j hj => HALL.out j (by rw [← HN2.out]; exact hj))]
        simp
      have HR3 := hid hR3
      clear hR3 HR2 HALL
      go_wp2_with fail
      clear k0 k1 k2
      go_loopw [49] (fun i wr => ∃ t : Nat, t ≤ n3 ∧ i = .int .i64 t ∧ Hid (∀ u, u < t → aggOk ks (gs.getD u Ag.df) = true) ∧ Hid (Below w.heap.size w wr)) (fun i _ => n3 - (intOf i).toNat)
      case atStart => exact ⟨0, by omega, rfl, hid (fun u h => absurd h (Nat.not_lt_zero u)), HBO⟩
      case round =>
        obtain ⟨t, ht, rfl, HALL, HBW⟩ := hrel
        by_cases hlt : t < n3
        · obtain ⟨b, o, rfl, hs⟩ := (HA.out.mono HBW.out).at (by omega)
          obtain ⟨m1, m2⟩ := hs.ag t (by rw [HN3.out]; exact hlt)
          have HB : Hid (aggOk ks (gs.getD t Ag.df) = false → R = false) := hid (fun h => by
            rw [HR3.out, all_not Ag.df t (by rw [HN3.out]; exact hlt) h])
          have HS : Hid (aggOk ks (gs.getD t Ag.df) = true → ∀ u, u < t + 1 → aggOk ks (gs.getD u Ag.df) = true) := hid (fun h u hu => by
            by_cases hut : u = t
            · subst hut; exact h
            · exact HALL.out u (by omega))
          clear hs
          generalize gs.getD t Ag.df = x at *
          obtain ⟨fn, col⟩ := x
          simp only at m1 m2
          have hcs := aggOk_cases ks fn col h0
          have hwr := HBW.out.size
          obtain ⟨ro, hbo⟩ := fresh (w := wr) (C := #[.int .i64 fn, .int .i64 col]) (e := 48)
          have HRA := hid ro; have HBA := hid hbo
          have HBW2 := hid (Below.then' HBW.out hbo hwr)
          clear ro hbo
          go_upto_region 12 with fail
          generalize wr.alloc (.cells #[.int .i64 fn, .int .i64 col] 48) = w1 at *
          clear m1 m2
          obtain ⟨p0, p1⟩ := cellP HRA.out
          rcases hcs with ⟨hbad, hf⟩ | ⟨c, rfl, hcl, h1, h5, hgood⟩
          · obtain rfl : R = false := HB.out hf
            clear hf HB HS
            by_cases hf1 : fn < 1
            · go_wp2_with fail
              go_ret
              exact ⟨rfl, HBW2.out⟩
            by_cases hf5 : 5 < fn
            · go_wp2_with fail
              go_ret
              exact ⟨rfl, HBW2.out⟩
            by_cases hc0 : col < 0
            · go_wp2_with fail
              go_ret
              exact ⟨rfl, HBW2.out⟩
            have hc1 : (ks.length : Int) ≤ col := by omega
            go_wp2_with fail
            go_ret
            exact ⟨rfl, HBW2.out⟩
          · have hcl1 : (c : Int) < (ks.length : Int) := by omega
            have hcl0 : (0 : Int) ≤ (c : Int) := by omega
            rcases hgood with ⟨rfl, hg⟩ | ⟨rfl, hg⟩ | ⟨g1, g3, hg⟩
            · by_cases hc0 : c = 0
              · subst hc0
                have HS2 := hid (HS.out (by rw [hg]; rfl))
                have p1' : w1.cell? ⟨wr.heap.size, 1, none⟩ = some (.int .i64 0) := p1
                have hz : (0 : Int) < (ks.length : Int) := by omega
                have hne : ¬ ks = [] := fun h => by rw [h] at h0; exact absurd h0 (by decide)
                clear hg HB HS p1 hcl1 hcl0
                go_wp2_with fail
                go_roundw
                case rel => exact ⟨t + 1, by omega, by go_num, HS2, HBW2⟩
                case measure => simp [intOf]; omega
              · obtain rfl : R = false := HB.out (by rw [hg]; simp [hc0])
                have ec : ((c : Int) != 0) = true := by simp; omega
                clear hg HB HS
                go_wp2_with fail
                go_ret
                exact ⟨rfl, HBW2.out⟩
            · obtain ⟨b2, o2, rfl, hs2⟩ := (HK.out.mono HBW2.out).at (by omega)
              have d1 := hs2.int c hcl
              clear hs2
              generalize ks.getD c 0 = y at *
              by_cases hy : y = 1
              · subst hy
                have HS2 := hid (HS.out (by rw [hg]; rfl))
                clear hg HB HS
                go_wp2_with fail
                go_roundw
                case rel => exact ⟨t + 1, by omega, by go_num, HS2, HBW2⟩
                case measure => simp [intOf]; omega
              · obtain rfl : R = false := HB.out (by rw [hg]; simp [hy])
                have ey : (y != 1) = true := by simp [hy]
                clear hg HB HS
                go_wp2_with fail
                go_ret
                exact ⟨rfl, HBW2.out⟩
            · have HS2 := hid (HS.out hg)
              have f1 : (fn == 1) = false := by simp [g1]
              have f3 : (fn == 3) = false := by simp [g3]
              clear hg HB HS
              go_wp2_with fail
              go_roundw
              case rel => exact ⟨t + 1, by omega, by go_num, HS2, HBW2⟩
              case measure => simp [intOf]; omega
        · obtain rfl : t = n3 := by omega
          obtain rfl : R = true := by
            rw [HR3.out, all_of (L := gs) (p := aggOk ks) Ag.df (fun j hj => HALL.out j (by rw [← HN3.out]; exact hj))]
          go_wp2_with fail
          go_ret
          exact ⟨rfl, HBW.out⟩
end Go.Proofs.Ytioaeijogjcghaa
