/- The document's Check: the whole. -/
import Derived.Test.YtioaeijogjcghaaCkh
set_option linter.unusedVariables false
set_option linter.unusedSimpArgs false
set_option linter.unnecessarySimpa false
set_option maxRecDepth 20000
namespace Go.Proofs.Ytioaeijogjcghaa
open Go.RowKit

theorem nodeOk_R {ks : List Int} (h : kindsOk ks = true) (d : Nd) : nodeOk ks d = nodeR ks d := by
  unfold nodeOk nodeR
  split
  · rfl
  · cases hc : colOk ks.length d.col
    · rfl
    · obtain ⟨c, hcc, hl⟩ := colOk_nat hc
      unfold kindsOk at h
      simp only [Bool.and_eq_true] at h
      have := all_at 0 c h.2 hl
      unfold leafOk leafR
      rw [hcc, Int.toNat_natCast, this]
      simp
theorem all_congr {α : Type} {L : List α} {p q : α → Bool} (h : ∀ x, p x = q x) : L.all p = L.all q := by
  rw [show p = q from funext h]
def dueN (ks : List Int) (L : List Nd) (cs : List Int) (gs : List Ag) : Int := if kindsOk ks = true then (if (decide (L.length ≤ 256) && nodesR ks L && outOk ks cs gs && givesB L) = true then 0 else 2) else 5
theorem due_chk (ks : List Int) (L : List Nd) (cs : List Int) (gs : List Ag) : chkN ks L cs gs = dueN ks L cs gs := by
  unfold chkN dueN
  by_cases h : kindsOk ks = true
  · rw [if_pos h, if_pos h]
    have e : queryOk ks L cs gs = (decide (L.length ≤ 256) && nodesR ks L && outOk ks cs gs && givesB L) := by
      unfold queryOk whereOk outOk nodesR
      rw [all_congr (p := nodeOk ks) (q := nodeR ks) (fun d => nodeOk_R h d)]
      generalize (!(decide (cs.length = 0) == decide (gs.length = 0))) = x1
      generalize colsOk ks.length cs = x2
      generalize aggsOk ks gs = x3
      generalize L.all (nodeR ks) = x4
      generalize decide (L.length ≤ 256) = x5
      generalize decide (argsN L L.length ≤ 1024) = x6
      generalize givesB L = x7
      cases x1 <;> cases x2 <;> cases x3 <;> cases x4 <;> cases x5 <;> cases x6 <;> cases x7 <;> rfl
    rw [e]
  · rw [if_neg h, if_neg h]
set_option maxHeartbeats 8000000 in
theorem refCheck_any (v0 wv cv av : Value) (ks : List Int) (L : List Nd) (cs : List Int) (gs : List Ag) (w : World) (hk : Rd w v0 ks.length 1 (i64s ks)) (hx : NsIn w wv L) (hc : Rd w cv cs.length 1 (i64s cs)) (ha : Rd w av gs.length 2 (ags gs)) (hl : argsN L L.length ≤ 1048576) :
    Calls Try.prog 9 #[v0, .agg #[wv, cv, av]] w fun e w' => e = .returned (.int .i64 (dueN ks L cs gs)) ∧ Below w.heap.size w w' := by
  have HK := hid hk
  have HNO := hid (fun (w2 : World) (hb : Below w.heap.size w w2) => refNodesOK_any v0 wv ks L w2 (hk.mono hb) (hx.mono hb) hl)
  have HOO := hid (fun (h0 : 0 < ks.length) (w2 : World) (hb : Below w.heap.size w w2) => refOutputsOK_any v0 wv cv av ks cs gs w2 h0 (hk.mono hb) (by obtain ⟨A, c, h⟩ := hx.form; exact ⟨A, _, c, h⟩) (hc.mono hb) (ha.mono hb))
  have HST := hid (fun (w2 : World) (hb : Below w.heap.size w w2) => subtree_any wv L w2 (hx.mono hb) L.length (Nat.le_refl _) ((L.length : Int) - 1) rfl)
  obtain ⟨A1, c1, rfl, hlc1, hcm1, _⟩ := hx
  obtain ⟨A2, c2, rfl, _, _, _⟩ := hc.form
  obtain ⟨A3, c3, rfl, _, _, _⟩ := ha.form
  obtain ⟨A0, c0, rfl, hlc0, hcm0, _⟩ := hk.form
  clear hk hc ha hl
  obtain ⟨ro, hbo⟩ := fresh (w := w) (C := #[.slice A1 L.length c1, .slice A2 cs.length c2, .slice A3 gs.length c3]) (e := 26)
  have HRO := hid ro; have HBO := hid hbo
  clear ro hbo
  have HGV := hid (sub_gives L)
  have HG0 : Hid (L.length = 0 → givesB L = true) := hid (fun h => by unfold givesB; rw [h]; rfl)
  obtain ⟨R, hR⟩ : ∃ R, dueN ks L cs gs = R := ⟨_, rfl⟩
  rw [hR]
  unfold dueN at hR
  have HR := hid hR
  have hgw := HRO.out.lt
  clear hR
  unfold maxLen at hcm0 hcm1
  obtain ⟨x2, hx2⟩ : ∃ x, nodesR ks L = x := ⟨_, rfl⟩
  obtain ⟨x3, hx3⟩ : ∃ x, outOk ks cs gs = x := ⟨_, rfl⟩
  obtain ⟨x4, hx4⟩ : ∃ x, givesB L = x := ⟨_, rfl⟩
  rw [hx2] at HNO HR
  rw [hx3] at HOO HR
  rw [hx4] at HGV HG0 HR
  clear hx2 hx3 hx4
  generalize cs.length = n2 at *
  generalize gs.length = n3 at *
  obtain ⟨n1, hn1⟩ : ∃ n, L.length = n := ⟨_, rfl⟩
  rw [hn1] at HNO HOO HST HRO HBO HGV HG0 HR hlc1 hgw
  obtain ⟨q, hq⟩ : ∃ q, ks.length = q := ⟨_, rfl⟩
  have HQ := hid hq
  rw [hq] at HK hlc0 HNO HOO ⊢
  rw [hn1]
  clear hn1 hq
  go_enter Try.func9, Try.ntmps9
  go_upto_region 1 with fail
  generalize w.alloc (.cells #[.slice A1 n1 c1, .slice A2 n2 c2, .slice A3 n3 c3] 26) = w0 at *
  obtain ⟨k0, k1, k2⟩ := cell3 HRO.out
  by_cases h1 : 1 ≤ q
  rotate_left
  · obtain rfl : R = 5 := by rw [← HR.out]; unfold kindsOk; rw [HQ.out]; simp [h1]
    go_wp2_with fail
    go_ret
    exact ⟨rfl, HBO.out⟩
  by_cases h2 : q ≤ 16
  rotate_left
  · obtain rfl : R = 5 := by rw [← HR.out]; unfold kindsOk; rw [HQ.out]; simp [h2]
    go_wp2_with fail
    go_ret
    exact ⟨rfl, HBO.out⟩
  go_wp2_with fail
  go_loop [17] (fun i => ∃ t : Nat, t ≤ q ∧ i = .int .i64 t ∧ Hid (∀ u, u < t → isKind (ks.getD u 0) = true)) (fun i => q - (intOf i).toNat)
  case atStart => exact ⟨0, by omega, rfl, hid (fun u h => absurd h (Nat.not_lt_zero u))⟩
  case round =>
    obtain ⟨t, ht, rfl, HALL⟩ := hrel
    by_cases hlt : t < q
    · obtain ⟨b, o, rfl, hs⟩ := (HK.out.mono HBO.out).at (by omega)
      have m1 := hs.int t (by rw [HQ.out]; exact hlt)
      have HB : Hid (isKind (ks.getD t 0) = false → R = 5) := hid (fun h => by
        rw [← HR.out]; unfold kindsOk
        rw [all_not 0 t (by rw [HQ.out]; exact hlt) h]; simp)
      have HS : Hid (isKind (ks.getD t 0) = true → ∀ u, u < t + 1 → isKind (ks.getD u 0) = true) := hid (fun h u hu => by
        by_cases hut : u = t
        · subst hut; exact h
        · exact HALL.out u (by omega))
      have HKK := hid (fun (w2 : World) => kindOKA (ks.getD t 0) w2)
      clear hs
      generalize ks.getD t 0 = x at *
      generalize isKind x = kx at *
      cases kx
      · obtain rfl : R = 5 := HB.out rfl
        go_wp2_with (go_at_call 24; refine (HKK.out _).mono ?_; rintro e w2 ⟨rfl, rfl⟩)
        go_ret
        exact ⟨rfl, HBO.out⟩
      · have HS2 := hid (HS.out rfl)
        go_wp2_with (go_at_call 24; refine (HKK.out _).mono ?_; rintro e w2 ⟨rfl, rfl⟩)
        go_round
        case rel => exact ⟨t + 1, by omega, by go_num, HS2⟩
        case measure => simp [intOf]; omega
    · obtain rfl : t = q := by omega
      have hkk : kindsOk ks = true := by
        unfold kindsOk
        rw [all_of (L := ks) (p := isKind) 0 (fun k hk => HALL.out k (by rw [← HQ.out]; exact hk)), HQ.out]
        simp [h1, h2]
      have hR2 : R = if (decide (n1 ≤ 256) && x2 && x3 && x4) = true then 0 else 2 := by rw [← HR.out, if_pos hkk]
      have HR2 := hid hR2
      have HOOt := hid (HOO.out (by omega))
      clear hR2 hkk HR HALL HOO
      by_cases h256 : n1 ≤ 256
      rotate_left
      · obtain rfl : R = 2 := by rw [HR2.out]; simp [h256]
        go_wp2_with fail
        go_ret
        exact ⟨rfl, HBO.out⟩
      cases x2
      · obtain rfl : R = 2 := by rw [HR2.out]; simp
        go_wp2_with (go_at_call 25; refine (HNO.out _ HBO.out).mono ?_; rintro e w3 ⟨rfl, hb3⟩)
        go_ret
        exact ⟨rfl, Below.then' HBO.out hb3 HBO.out.size⟩
      cases x3
      · obtain rfl : R = 2 := by rw [HR2.out]; simp
        go_wp2_with (first
          | (go_at_call 25; refine (HNO.out _ HBO.out).mono ?_; rintro e w3 ⟨rfl, hb3⟩; have HBW3 := hid (Below.then' HBO.out hb3 HBO.out.size); have HRO3 := hid (HRO.out.mono hb3); clear k0 k1 k2 hb3; obtain ⟨k0, k1, k2⟩ := cell3 HRO3.out)
          | (go_at_call 26; refine (HOOt.out _ HBW3.out).mono ?_; rintro e w4 ⟨rfl, hb4⟩))
        go_ret
        exact ⟨rfl, Below.then' HBW3.out hb4 HBW3.out.size⟩
      have hR3 : R = if x4 = true then 0 else 2 := by rw [HR2.out]; simp [h256]
      have HR3 := hid hR3
      clear hR3 HR2
      by_cases hn0 : n1 = 0
      · subst hn0
        obtain rfl : R = 0 := by rw [HR3.out, HG0.out rfl]; rfl
        go_wp2_with (first
          | (go_at_call 25; refine (HNO.out _ HBO.out).mono ?_; rintro e w3 ⟨rfl, hb3⟩; have HBW3 := hid (Below.then' HBO.out hb3 HBO.out.size); have HRO3 := hid (HRO.out.mono hb3); clear k0 k1 k2 hb3; obtain ⟨k0, k1, k2⟩ := cell3 HRO3.out)
          | (go_at_call 26; refine (HOOt.out _ HBW3.out).mono ?_; rintro e w4 ⟨rfl, hb4⟩; have HBW4 := hid (Below.then' HBW3.out hb4 HBW3.out.size); have HRO4 := hid (HRO3.out.mono hb4); clear k0 k1 k2 hb4; obtain ⟨k0, k1, k2⟩ := cell3 HRO4.out))
        go_ret
        exact ⟨rfl, HBW4.out⟩
      · have hgt : (n1 : Int) > 0 := by omega
        have HGV2 := hid (fun s hs => HGV.out s hs (by omega))
        clear HGV HG0
        go_wp2_with (first
          | (go_at_call 25; refine (HNO.out _ HBO.out).mono ?_; rintro e w3 ⟨rfl, hb3⟩; have HBW3 := hid (Below.then' HBO.out hb3 HBO.out.size); have HRO3 := hid (HRO.out.mono hb3); clear k0 k1 k2 hb3; obtain ⟨k0, k1, k2⟩ := cell3 HRO3.out)
          | (go_at_call 26; refine (HOOt.out _ HBW3.out).mono ?_; rintro e w4 ⟨rfl, hb4⟩; have HBW4 := hid (Below.then' HBW3.out hb4 HBW3.out.size); have HRO4 := hid (HRO3.out.mono hb4); clear k0 k1 k2 hb4; obtain ⟨k0, k1, k2⟩ := cell3 HRO4.out)
          | (go_at_call 27; refine (HST.out _ HBW4.out).mono ?_; rintro e w5 ⟨⟨s, rfl, hs⟩, rfl⟩; have hgv := HGV2.out s hs; clear hs))
        · rename_i hs0
          have hx : x4 = false := by rw [← hgv]; simpa using hs0
          have hRR : R = 2 := by rw [HR3.out, hx]; rfl
          go_ret
          exact ⟨by rw [hRR]; rfl, HBW4.out⟩
        · rename_i hs0
          have hx : x4 = true := by rw [← hgv]; simpa using hs0
          have hRR : R = 0 := by rw [HR3.out, hx]; rfl
          go_ret
          exact ⟨by rw [hRR]; rfl, HBW4.out⟩
end Go.Proofs.Ytioaeijogjcghaa
