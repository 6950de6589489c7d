/- Package scan: Check. -/
import Derived.Test.YtioaeijogjcghaaCkc
set_option linter.unusedVariables false
set_option linter.unusedSimpArgs false
set_option linter.unnecessarySimpa false
set_option maxRecDepth 20000
namespace Go.Proofs.Ytioaeijogjcghaa
open Go.RowKit

def whereOk (ks : List Int) (L : List Nd) : Bool := decide (L.length ≤ 256) && decide (argsN L L.length ≤ 1024) && L.all (nodeOk ks) && givesB L
set_option maxHeartbeats 4000000 in
theorem isWhere_any (v0 v : Value) (ks : List Int) (L : List Nd) (w : World) (hk : Rd w v0 ks.length 1 (i64s ks)) (hx : NsIn w v L) (hl : argsN L L.length ≤ 1048576) : Calls Try.prog 42 #[v0, v] w fun e w' => e = .returned (.bool (whereOk ks L)) ∧ Below w.heap.size w w' := by
  have HX := hid hx
  have HCA := hid (countArgs_any v L w hx hl)
  have HGO := hid (fun (w2 : World) (hb : Below w.heap.size w w2) => givesOne_any v L w2 (hx.mono hb))
  have HND := hid (fun (d : Nd) (av : Value) (w2 : World) (hb : Below w.heap.size w w2) (hr : Rd w2 av d.args.length 3 (cells3 d.args)) => isNode_any v0 ks d.op d.col av d.args w2 (hk.mono hb) hr)
  obtain ⟨A, ca, rfl, hlc, hcm, _⟩ := hx
  clear hk
  obtain ⟨R, hR⟩ : ∃ R, whereOk ks L = R := ⟨_, rfl⟩
  rw [hR]
  unfold whereOk at hR
  have HR := hid hR
  clear hR
  obtain ⟨G, hG⟩ : ∃ G, givesB L = G := ⟨_, rfl⟩
  rw [hG] at HGO HR
  obtain ⟨q, hq⟩ : ∃ q, L.length = q := ⟨_, rfl⟩
  have HQ := hid hq
  rw [hq] at HX hlc HR HCA HGO ⊢
  clear hq hl hG
  generalize argsN L q = an at *
  unfold maxLen at hcm
  go_enter Try.func42, Try.ntmps42
  by_cases h256 : q ≤ 256
  rotate_left
  · obtain rfl : R = false := by rw [← HR.out]; simp [h256]
    go_wp2_with fail
    go_ret
    exact ⟨rfl, brefl w⟩
  by_cases h1024 : an ≤ 1024
  rotate_left
  · obtain rfl : R = false := by rw [← HR.out]; simp [h1024]
    go_wp2_with (go_at_call 52; refine HCA.out.mono ?_; rintro e w2 ⟨rfl, hb2⟩)
    go_ret
    exact ⟨rfl, hb2⟩
  go_wp2_with (go_at_call 52; refine HCA.out.mono ?_; rintro e w2 ⟨rfl, hb2⟩)
  go_loopw [17] (fun i wr => ∃ t : Nat, t ≤ q ∧ i = .int .i64 t ∧ Hid (∀ u, u < t → nodeOk ks (L.getD u Nd.df) = true) ∧ Hid (Below w.heap.size w wr)) (fun i _ => q - (intOf i).toNat)
  case atStart => exact ⟨0, by omega, rfl, hid (fun u h => absurd h (Nat.not_lt_zero u)), hid hb2⟩
  case round =>
    obtain ⟨t, ht, rfl, HALL, HBW⟩ := hrel
    by_cases hlt : t < q
    · obtain ⟨b, o, B, c, rfl, c0, c1, c2, hr⟩ := (HX.out.mono HBW.out).at t (by rw [HQ.out]; exact hlt)
      have HB : Hid (nodeOk ks (L.getD t Nd.df) = false → R = false) := hid (fun h => by
        rw [← HR.out, all_not Nd.df t (by rw [HQ.out]; exact hlt) h]; simp)
      have HS : Hid (nodeOk ks (L.getD t Nd.df) = true → ∀ u, u < t + 1 → nodeOk ks (L.getD u Nd.df) = true) := hid (fun h u hu => by
        by_cases hut : u = t
        · subst hut; exact h
        · exact HALL.out u (by omega))
      have HNDt := hid (fun (w2 : World) (hb : Below wr.heap.size wr w2) => HND.out (L.getD t Nd.df) _ w2 (Below.then' HBW.out hb HBW.out.size) (hr.mono hb))
      clear hr HND hb2
      generalize L.getD t Nd.df = x at *
      obtain ⟨op, col, args⟩ := x
      simp only at c0 c1 c2 HNDt
      generalize nodeOk ks ⟨op, col, args⟩ = kx at *
      generalize args.length = al at *
      have hwr := HBW.out.size
      cases kx
      · obtain rfl : R = false := HB.out rfl
        go_wp2_with (go_at_call 53; refine (HNDt.out _ ((brefl wr).alloc (Nat.le_refl _) _)).mono ?_; rintro e w2 ⟨rfl, hb2⟩)
        go_ret
        exact ⟨rfl, Below.then' (HBW.out.alloc HBW.out.size _) hb2 (by simp; omega)⟩
      · have HS2 := hid (HS.out rfl)
        go_wp2_with (go_at_call 53; refine (HNDt.out _ ((brefl wr).alloc (Nat.le_refl _) _)).mono ?_; rintro e w2 ⟨rfl, hb2⟩)
        go_roundw
        case rel => exact ⟨t + 1, by omega, by go_num, HS2, hid (Below.then' (HBW.out.alloc HBW.out.size _) hb2 (by simp; omega))⟩
        case measure => simp [intOf]; omega
    · obtain rfl : t = q := by omega
      obtain rfl : R = G := by
        rw [← HR.out, all_of (L := L) (p := nodeOk ks) Nd.df (fun j hj => HALL.out j (by rw [← HQ.out]; exact hj))]
        simp [h256, h1024]
      go_wp2_with (go_at_call 54; refine (HGO.out _ HBW.out).mono ?_; rintro e w3 ⟨rfl, hb3⟩)
      go_ret
      exact ⟨rfl, Below.then' HBW.out hb3 HBW.out.size⟩
def queryOk (ks : List Int) (L : List Nd) (cs : List Int) (gs : List Ag) : Bool := !(decide (cs.length = 0) == decide (gs.length = 0)) && colsOk ks.length cs && aggsOk ks gs && whereOk ks L
set_option maxHeartbeats 4000000 in
theorem isQuery_any (v0 wv cv av : Value) (ks : List Int) (L : List Nd) (cs : List Int) (gs : List Ag) (w : World) (hk : Rd w v0 ks.length 1 (i64s ks)) (hx : NsIn w wv L) (hc : Rd w cv cs.length 1 (i64s cs)) (ha : Rd w av gs.length 2 (ags gs)) (hl : argsN L L.length ≤ 1048576) :
    Calls Try.prog 23 #[v0, .agg #[wv, cv, av]] w fun e w' => e = .returned (.bool (queryOk ks L cs gs)) ∧ Below w.heap.size w w' := by
  have HW := hid (fun (w2 : World) (hb : Below w.heap.size w w2) => isWhere_any v0 wv ks L w2 (hk.mono hb) (hx.mono hb) hl)
  have HC := hid (fun (w2 : World) (hb : Below w.heap.size w w2) => areCols_any v0 cv ks cs w2 (hk.mono hb) (hc.mono hb))
  have HA := hid (fun (w2 : World) (hb : Below w.heap.size w w2) => areAggs_any v0 av ks gs w2 (hk.mono hb) (ha.mono hb))
  obtain ⟨A1, c1, rfl⟩ := hx.form
  obtain ⟨A2, c2, rfl, _, _, _⟩ := hc.form
  obtain ⟨A3, c3, rfl, _, _, _⟩ := ha.form
  obtain ⟨A0, c0, rfl, _, _, _⟩ := hk.form
  clear hk hx hc ha
  obtain ⟨R, hR⟩ : ∃ R, queryOk ks L cs gs = R := ⟨_, rfl⟩
  rw [hR]
  unfold queryOk at hR
  have HR := hid hR
  clear hR
  obtain ⟨ro, hbo⟩ := fresh (w := w) (C := #[.slice A1 L.length c1, .slice A2 cs.length c2, .slice A3 gs.length c3]) (e := 26)
  have HRO := hid ro; have HBO := hid hbo
  clear ro hbo
  generalize cs.length = n2 at *
  generalize gs.length = n3 at *
  generalize L.length = n1 at *
  obtain ⟨x1, h1⟩ : ∃ x, colsOk ks.length cs = x := ⟨_, rfl⟩
  obtain ⟨x2, h2⟩ : ∃ x, aggsOk ks gs = x := ⟨_, rfl⟩
  obtain ⟨x3, h3⟩ : ∃ x, whereOk ks L = x := ⟨_, rfl⟩
  rw [h1] at HC HR
  rw [h2] at HA HR
  rw [h3] at HW HR
  clear h1 h2 h3
  have e2 : ((n2 : Int) == 0) = decide (n2 = 0) := by by_cases h : n2 = 0 <;> simp [h]
  have e3 : ((n3 : Int) == 0) = decide (n3 = 0) := by by_cases h : n3 = 0 <;> simp [h]
  go_enter Try.func23, Try.ntmps23
  go_upto_region 1 with fail
  generalize w.alloc (.cells #[.slice A1 n1 c1, .slice A2 n2 c2, .slice A3 n3 c3] 26) = w0 at *
  obtain ⟨k0, k1, k2⟩ := cell3 HRO.out
  generalize decide (n2 = 0) = d2 at *
  generalize decide (n3 = 0) = d3 at *
  by_cases hd : d2 = d3
  · subst hd
    obtain rfl : R = false := by rw [← HR.out]; simp
    go_wp2_with fail
    go_ret
    exact ⟨rfl, HBO.out⟩
  have ed : (d2 == d3) = false := by cases d2 <;> cases d3 <;> simp_all
  rw [ed] at HR
  cases x1
  · obtain rfl : R = false := by rw [← HR.out]; simp
    go_wp2_with (go_at_call 40; refine (HC.out _ HBO.out).mono ?_; rintro e w2 ⟨rfl, rfl⟩)
    go_ret
    exact ⟨rfl, HBO.out⟩
  cases x2
  · obtain rfl : R = false := by rw [← HR.out]; simp
    go_wp2_with (first
      | (go_at_call 40; refine (HC.out _ HBO.out).mono ?_; rintro e w2 ⟨rfl, rfl⟩)
      | (go_at_call 41; refine (HA.out _ HBO.out).mono ?_; rintro e w3 ⟨rfl, hb3⟩))
    go_ret
    exact ⟨rfl, Below.then' HBO.out hb3 HBO.out.size⟩
  obtain rfl : R = x3 := by rw [← HR.out]; simp
  go_wp2_with (first
      | (go_at_call 40; refine (HC.out _ HBO.out).mono ?_; rintro e w2 ⟨rfl, rfl⟩)
      | (go_at_call 41; refine (HA.out _ HBO.out).mono ?_; rintro e w3 ⟨rfl, hb3⟩; have HBW3 := hid (Below.then' HBO.out hb3 HBO.out.size); have HRO3 := hid (HRO.out.mono hb3); clear hb3 k0 k1 k2; obtain ⟨k0, k1, k2⟩ := cell3 HRO3.out)
      | (go_at_call 42; refine (HW.out _ HBW3.out).mono ?_; rintro e w4 ⟨rfl, hb4⟩))
  go_ret
  exact ⟨rfl, Below.then' HBW3.out hb4 HBW3.out.size⟩
def chkN (ks : List Int) (L : List Nd) (cs : List Int) (gs : List Ag) : Int := if kindsOk ks = true then (if queryOk ks L cs gs = true then 0 else 2) else 5
set_option maxHeartbeats 4000000 in
theorem Check_any (v0 wv cv av : Value) (ks : List Int) (L : List Nd) (cs : List Int) (gs : List Ag) (w : World) (hk : Rd w v0 ks.length 1 (i64s ks)) (hx : NsIn w wv L) (hc : Rd w cv cs.length 1 (i64s cs)) (ha : Rd w av gs.length 2 (ags gs)) (hl : argsN L L.length ≤ 1048576) :
    Calls Try.prog 7 #[v0, .agg #[wv, cv, av]] w fun e w' => e = .returned (.int .i64 (chkN ks L cs gs)) ∧ Below w.heap.size w w' := by
  have HAK := hid (fun (w2 : World) (hb : Below w.heap.size w w2) => areKinds_any v0 ks w2 (hk.mono hb))
  have HIQ := hid (fun (w2 : World) (hb : Below w.heap.size w w2) => isQuery_any v0 wv cv av ks L cs gs w2 (hk.mono hb) (hx.mono hb) (hc.mono hb) (ha.mono hb) hl)
  obtain ⟨A1, c1, rfl⟩ := hx.form
  obtain ⟨A2, c2, rfl, _, _, _⟩ := hc.form
  obtain ⟨A3, c3, rfl, _, _, _⟩ := ha.form
  obtain ⟨A0, c0, rfl, _, _, _⟩ := hk.form
  clear hk hx hc ha
  obtain ⟨ro, hbo⟩ := fresh (w := w) (C := #[.slice A1 L.length c1, .slice A2 cs.length c2, .slice A3 gs.length c3]) (e := 26)
  have HRO := hid ro; have HBO := hid hbo
  clear ro hbo
  unfold chkN
  generalize cs.length = n2 at *
  generalize gs.length = n3 at *
  generalize L.length = n1 at *
  generalize kindsOk ks = x1 at *
  generalize queryOk ks L cs gs = x2 at *
  go_enter Try.func7, Try.ntmps7
  go_upto_region 1 with fail
  generalize w.alloc (.cells #[.slice A1 n1 c1, .slice A2 n2 c2, .slice A3 n3 c3] 26) = w0 at *
  obtain ⟨k0, k1, k2⟩ := cell3 HRO.out
  cases x1
  · go_wp2_with (go_at_call 22; refine (HAK.out _ HBO.out).mono ?_; rintro e w2 ⟨rfl, rfl⟩)
    go_ret
    exact ⟨by simp, HBO.out⟩
  · cases x2
    · go_wp2_with (first
        | (go_at_call 22; refine (HAK.out _ HBO.out).mono ?_; rintro e w2 ⟨rfl, rfl⟩)
        | (go_at_call 23; refine (HIQ.out _ HBO.out).mono ?_; rintro e w3 ⟨rfl, hb3⟩))
      go_ret
      exact ⟨by simp, Below.then' HBO.out hb3 HBO.out.size⟩
    · go_wp2_with (first
        | (go_at_call 22; refine (HAK.out _ HBO.out).mono ?_; rintro e w2 ⟨rfl, rfl⟩)
        | (go_at_call 23; refine (HIQ.out _ HBO.out).mono ?_; rintro e w3 ⟨rfl, hb3⟩))
      go_ret
      exact ⟨by simp, Below.then' HBO.out hb3 HBO.out.size⟩
end Go.Proofs.Ytioaeijogjcghaa
