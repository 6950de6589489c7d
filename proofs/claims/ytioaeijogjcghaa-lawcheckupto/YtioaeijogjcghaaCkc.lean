/- Package scan: is a query well-typed: leaves, nodes, the filter's form. -/
import Derived.Test.YtioaeijogjcghaaCkb
set_option linter.unusedVariables false
set_option linter.unusedSimpArgs false
set_option linter.unnecessarySimpa false
set_option maxRecDepth 20000
namespace Go.Proofs.Ytioaeijogjcghaa
open Go.RowKit

def leafOk (k : Int) (d : Nd) : Bool := takesB d.op d.args.length && d.args.all (isVal k) && isKind k
set_option maxHeartbeats 2000000 in
theorem isLeaf_any (k op col : Int) (av : Value) (args : List C3) (w : World) (hx : Rd w av args.length 3 (cells3 args)) : Calls Try.prog 58 #[.int .i64 k, .agg #[.int .i64 op, .int .i64 col, av]] w fun e w' => e = .returned (.bool (leafOk k ⟨op, col, args⟩)) ∧ Below w.heap.size w w' := by
  have HX := hid hx
  have HIV := hid (fun (c : C3) (w2 : World) => isValue_any c k w2)
  have HTK := hid (fun (w2 : World) => takes_any op args.length w2)
  have HIK := hid (fun (w2 : World) => isKindA k w2)
  obtain ⟨A, ca, rfl, hlc, hcm, _⟩ := hx.form
  clear hx
  obtain ⟨R, hR⟩ : ∃ R, leafOk k ⟨op, col, args⟩ = R := ⟨_, rfl⟩
  rw [hR]
  unfold leafOk at hR
  simp only at hR
  have HR := hid hR
  clear hR
  obtain ⟨ro, hbo⟩ := fresh (w := w) (C := #[.int .i64 op, .int .i64 col, .slice A args.length ca]) (e := 56)
  have HRO := hid ro; have HBO := hid hbo
  clear ro hbo
  obtain ⟨q, hq⟩ : ∃ q, args.length = q := ⟨_, rfl⟩
  have HQ := hid hq
  rw [hq] at HX hlc HTK HR HRO HBO ⊢
  clear hq
  unfold maxLen at hcm
  obtain ⟨tk, htk⟩ : ∃ tk, takesB op q = tk := ⟨_, rfl⟩
  rw [htk] at HTK HR
  go_enter Try.func58, Try.ntmps58
  go_upto_region 1 with fail
  generalize w.alloc (.cells #[.int .i64 op, .int .i64 col, .slice A q ca] 56) = w0 at *
  obtain ⟨k0, k1, k2⟩ := cell3 HRO.out
  cases tk
  · obtain rfl : R = false := by rw [← HR.out]; simp
    go_wp2_with (go_at_call 59; refine (HTK.out _).mono ?_; rintro e w2 ⟨rfl, rfl⟩)
    go_ret
    exact ⟨rfl, HBO.out⟩
  go_wp2_with (go_at_call 59; refine (HTK.out _).mono ?_; rintro e w2 ⟨rfl, rfl⟩)
  clear k0 k1 k2
  go_loopw [17] (fun i wr => ∃ t : Nat, t ≤ q ∧ i = .int .i64 t ∧ Hid (∀ u, u < t → isVal k (args.getD u C3.df) = true) ∧ Hid (Below w.heap.size w wr)) (fun i _ => q - (intOf i).toNat)
  case atStart => exact ⟨0, by omega, rfl, hid (fun u h => absurd h (Nat.not_lt_zero u)), HBO⟩
  case round =>
    obtain ⟨t, ht, rfl, HALL, HBW⟩ := hrel
    by_cases hlt : t < q
    · obtain ⟨b, o, rfl, hs⟩ := (HX.out.mono HBW.out).at (by omega)
      obtain ⟨c0, c1, c2⟩ := hs.c3 t (by rw [HQ.out]; exact hlt)
      have HB : Hid (isVal k (args.getD t C3.df) = false → R = false) := hid (fun h => by
        rw [← HR.out, all_not C3.df t (by rw [HQ.out]; exact hlt) h]; simp)
      have HS : Hid (isVal k (args.getD t C3.df) = true → ∀ u, u < t + 1 → isVal k (args.getD u C3.df) = true) := hid (fun h u hu => by
        by_cases hut : u = t
        · subst hut; exact h
        · exact HALL.out u (by omega))
      have HK := hid (fun (w2 : World) => HIV.out (args.getD t C3.df) w2)
      clear hs HIV
      generalize args.getD t C3.df = x at *
      obtain ⟨xn, xi, xs⟩ := x
      simp only [C3.v] at c0 c1 c2 HK
      generalize isVal k ⟨xn, xi, xs⟩ = kx at *
      have hwr := HBW.out.size
      cases kx
      · obtain rfl : R = false := HB.out rfl
        go_wp2_with (go_at_call 35; refine (HK.out _).mono ?_; rintro e w2 ⟨rfl, hb2⟩)
        go_ret
        exact ⟨rfl, Below.then' (HBW.out.alloc HBW.out.size _) hb2 (by simp; omega)⟩
      · have HS2 := hid (HS.out rfl)
        go_wp2_with (go_at_call 35; refine (HK.out _).mono ?_; rintro e w2 ⟨rfl, hb2⟩)
        go_roundw
        case rel => exact ⟨t + 1, by omega, by go_num, HS2, hid (Below.then' (HBW.out.alloc HBW.out.size _) hb2 (by simp; omega))⟩
        case measure => simp [intOf]; omega
    · obtain rfl : t = q := by omega
      have hRK : R = isKind k := by
        rw [← HR.out, all_of (L := args) (p := isVal k) C3.df (fun j hj => HALL.out j (by rw [← HQ.out]; exact hj))]
        simp
      clear HR
      subst hRK
      go_wp2_with (go_at_call 39; refine (HIK.out _).mono ?_; rintro e w2 ⟨rfl, rfl⟩)
      go_ret
      exact ⟨rfl, HBW.out⟩
def nodeOk (ks : List Int) (d : Nd) : Bool := if 0 < opsN d.op then decide (d.col = 0) && decide (d.args.length = 0) else colOk ks.length d.col && leafOk (ks.getD d.col.toNat 0) d
theorem opsN_range (op : Int) : 0 ≤ opsN op ∧ opsN op ≤ 2 := by
  unfold opsN; split
  · omega
  · split <;> omega
set_option maxHeartbeats 4000000 in
theorem isNode_any (v0 : Value) (ks : List Int) (op col : Int) (av : Value) (args : List C3) (w : World) (hk : Rd w v0 ks.length 1 (i64s ks)) (hx : Rd w av args.length 3 (cells3 args)) :
    Calls Try.prog 53 #[v0, .agg #[.int .i64 op, .int .i64 col, av]] w fun e w' => e = .returned (.bool (nodeOk ks ⟨op, col, args⟩)) ∧ Below w.heap.size w w' := by
  have HK := hid hk
  have HOP := hid (fun (w2 : World) => operands_any op w2)
  have HIL := hid (fun (k : Int) (w2 : World) (hb : Below w.heap.size w w2) => isLeaf_any k op col av args w2 (hx.mono hb))
  have HIC := hid (fun (w2 : World) (hb : Below w.heap.size w w2) => isColumn_any v0 ks col w2 (hk.mono hb))
  obtain ⟨A, ca, rfl, hlc, hcm, _⟩ := hx.form
  obtain ⟨A0, ca0, rfl, hlc0, hcm0, _⟩ := hk.form
  clear hx hk
  obtain ⟨R, hR⟩ : ∃ R, nodeOk ks ⟨op, col, args⟩ = R := ⟨_, rfl⟩
  rw [hR]
  unfold nodeOk at hR
  simp only at hR
  have HR := hid hR
  clear hR
  obtain ⟨ro, hbo⟩ := fresh (w := w) (C := #[.int .i64 op, .int .i64 col, .slice A args.length ca]) (e := 56)
  have HRO := hid ro; have HBO := hid hbo
  have hor := opsN_range op
  obtain ⟨q, hq⟩ : ∃ q, opsN op = q := ⟨_, rfl⟩
  rw [hq] at HOP HR hor
  obtain ⟨n, hn⟩ : ∃ n, args.length = n := ⟨_, rfl⟩
  rw [hn] at HIL HR HRO HBO hlc ⊢
  clear hq hn ro hbo
  unfold maxLen at hcm hcm0
  go_enter Try.func53, Try.ntmps53
  go_upto_region 1 with fail
  generalize w.alloc (.cells #[.int .i64 op, .int .i64 col, .slice A n ca] 56) = w0 at *
  obtain ⟨k0, k1, k2⟩ := cell3 HRO.out
  by_cases hop : 0 < q
  · by_cases hc : col = 0
    · subst hc
      by_cases hn : n = 0
      · obtain rfl : R = true := by rw [← HR.out]; simp [hop, hn]
        go_wp2_with (go_at_call 57; refine (HOP.out _).mono ?_; rintro e w2 ⟨rfl, rfl⟩)
        go_ret
        exact ⟨ret_bool (by simp [hn]), HBO.out⟩
      · obtain rfl : R = false := by rw [← HR.out]; simp [hop, hn]
        go_wp2_with (go_at_call 57; refine (HOP.out _).mono ?_; rintro e w2 ⟨rfl, rfl⟩)
        go_ret
        exact ⟨ret_bool (by simp; omega), HBO.out⟩
    · have ec : (col == 0) = false := by simp [hc]
      obtain rfl : R = false := by rw [← HR.out]; simp [hop, hc]
      go_wp2_with (go_at_call 57; refine (HOP.out _).mono ?_; rintro e w2 ⟨rfl, rfl⟩)
      go_ret
      exact ⟨rfl, HBO.out⟩
  · obtain ⟨C, hC⟩ : ∃ C, colOk ks.length col = C := ⟨_, rfl⟩
    rw [hC] at HIC
    have hq0 : ¬ q > 0 := hop
    cases C
    · obtain rfl : R = false := by rw [← HR.out]; simp [hop, hC]
      go_upto_region 3 with (go_at_call 57; refine (HOP.out _).mono ?_; rintro e w2 ⟨rfl, rfl⟩)
      go_quiet (first | (go_at_call 50; exact Calls.quiet_of_same (HIC.out _ (bdrew HBO.out _))))
      go_wp2_with fail
      go_ret
      exact ⟨rfl, bdrew HBO.out _⟩
    · obtain ⟨c, rfl, hc⟩ := colOk_nat hC
      obtain ⟨b, o, rfl, hs⟩ := (HK.out.mono HBO.out).at (by omega)
      have c1 := hs.int c hc
      have hc2 : (c : Int) < (ks.length : Int) := by omega
      have hc3 : (0 : Int) ≤ (c : Int) := by omega
      have hR2 : R = leafOk (ks.getD c 0) ⟨op, c, args⟩ := by rw [← HR.out, if_neg hop, hC]; simp
      have HILk := hid (fun (w2 : World) (hb : Below w.heap.size w w2) => HIL.out (ks.getD c 0) w2 hb)
      rw [← hR2] at HILk
      clear hs hC hR2 HR HIL
      generalize ks.getD c 0 = x at *
      go_upto_region 3 with (go_at_call 57; refine (HOP.out _).mono ?_; rintro e w2 ⟨rfl, rfl⟩)
      have hw0 : w.heap.size < w2.heap.size := HRO.out.lt
      have hbl : b < w2.heap.size := World.block_lt_of_cell? w2 _ c1
      go_region_held3 (fun w' => w'.cell? ⟨w.heap.size, 0, none⟩ = some (.int .i64 op) ∧ w'.cell? ⟨w.heap.size, 1, none⟩ = some (.int .i64 c) ∧ w'.cell? ⟨w.heap.size, 2, none⟩ = some (.slice A n ca) ∧ w'.cell? ⟨b, o + c, none⟩ = some (.int .i64 x)) (go_keep)
        (first
          | (go_at_call 50; refine (HIC.out _ (bdrew HBO.out _)).mono ?_; rintro e w2 ⟨rfl, rfl⟩)
          | (go_at_call 58; refine (HILk.out _ (bdrew HBO.out _)).mono ?_; rintro e w3 ⟨rfl, hb3⟩; have HB3 := hid hb3; have d0 := (hb3.cell (p := ⟨w.heap.size, 0, none⟩) hw0).trans k0; have d1 := (hb3.cell (p := ⟨w.heap.size, 1, none⟩) hw0).trans k1; have d2 := (hb3.cell (p := ⟨w.heap.size, 2, none⟩) hw0).trans k2; have d3 := (hb3.cell (p := ⟨b, o + c, none⟩) hbl).trans c1; clear hb3))
      all_goals
        go_wp2_with fail
        go_ret
        exact ⟨rfl, Below.then' (bdrew HBO.out 1) HB3.out HBO.out.size⟩
/-- how many truth values stand behind the first t nodes; none where a node lacks one -/
def leftN (L : List Nd) : Nat → Option Int
  | 0 => some 0
  | t + 1 => match leftN L t with
    | some l => if opsN (L.getD t Nd.df).op > l then none else some (l + (1 - opsN (L.getD t Nd.df).op))
    | none => none
def givesB (L : List Nd) : Bool := match leftN L L.length with
  | some l => decide (l = 1) || decide (L.length = 0)
  | none => false
theorem leftN_none (L : List Nd) {t u : Nat} (h : leftN L t = none) (htu : t ≤ u) : leftN L u = none := by
  induction u with
  | zero => obtain rfl : t = 0 := by omega
            exact h
  | succ u ih =>
    by_cases e : t = u + 1
    · subst e; exact h
    · simp only [leftN, ih (by omega)]
theorem leftN_range (L : List Nd) : ∀ {t : Nat} {l : Int}, leftN L t = some l → 0 ≤ l ∧ l ≤ t
  | 0, l, h => by simp [leftN] at h; omega
  | t + 1, l, h => by
    simp only [leftN] at h
    cases hl : leftN L t with
    | none => rw [hl] at h; cases h
    | some l' =>
      rw [hl] at h
      have := leftN_range L hl
      have hr := opsN_range (L.getD t Nd.df).op
      simp only at h
      split at h
      · cases h
      · injection h with h; omega
set_option maxHeartbeats 4000000 in
theorem givesOne_any (v : Value) (L : List Nd) (w : World) (hx : NsIn w v L) : Calls Try.prog 54 #[v] w fun e w' => e = .returned (.bool (givesB L)) ∧ Below w.heap.size w w' := by
  have HX := hid hx
  have HOP := hid (fun (op : Int) (w2 : World) => operands_any op w2)
  obtain ⟨A, ca, rfl, hlc, hcm, _⟩ := hx
  obtain ⟨R, hR⟩ : ∃ R, givesB L = R := ⟨_, rfl⟩
  rw [hR]
  unfold givesB at hR
  have HR := hid hR
  clear hR
  obtain ⟨q, hq⟩ : ∃ q, L.length = q := ⟨_, rfl⟩
  have HQ := hid hq
  rw [hq] at HX hlc HR ⊢
  clear hq
  unfold maxLen at hcm
  go_enter Try.func54, Try.ntmps54
  go_wp2_with fail
  go_loopw [3, 9] (fun s i wr => ∃ (t : Nat) (l : Int), t ≤ q ∧ i = .int .i64 t ∧ s = .int .i64 l ∧ Hid (leftN L t = some l) ∧ Hid (Below w.heap.size w wr)) (fun _ i _ => q - (intOf i).toNat)
  case atStart => exact ⟨0, 0, by omega, rfl, rfl, hid rfl, hid (brefl w)⟩
  case round =>
    obtain ⟨t, l, ht, rfl, rfl, HL, HBW⟩ := hrel
    obtain ⟨hl0, hl1⟩ := leftN_range L HL.out
    by_cases hlt : t < q
    · obtain ⟨b, o, B, c, rfl, c0, c1, c2, hr⟩ := (HX.out.mono HBW.out).at t (by rw [HQ.out]; exact hlt)
      have HN : Hid (leftN L (t + 1) = if opsN (L.getD t Nd.df).op > l then none else some (l + (1 - opsN (L.getD t Nd.df).op))) := hid (by simp only [leftN, HL.out])
      have hor := opsN_range (L.getD t Nd.df).op
      have HOPt := hid (fun (w2 : World) => HOP.out (L.getD t Nd.df).op w2)
      clear hr HOP
      generalize L.getD t Nd.df = x at *
      obtain ⟨op, col, args⟩ := x
      simp only at c0 c1 c2 HN HOPt hor
      generalize args.length = al at *
      generalize opsN op = z at *
      have hwr := HBW.out.size
      by_cases hz : z > l
      · obtain rfl : R = false := by
          have h1 : leftN L (t + 1) = none := by rw [HN.out, if_pos hz]
          rw [← HR.out, leftN_none L h1 (by omega)]
        go_wp2_with (go_at_call 57; refine (HOPt.out _).mono ?_; rintro e w2 ⟨rfl, rfl⟩)
        go_ret
        exact ⟨rfl, HBW.out.alloc HBW.out.size _⟩
      · have HN2 : Hid (leftN L (t + 1) = some (l + (1 - z))) := hid (by rw [HN.out, if_neg hz])
        go_wp2_with (go_at_call 57; refine (HOPt.out _).mono ?_; rintro e w2 ⟨rfl, rfl⟩)
        go_roundw
        case rel => exact ⟨t + 1, l + (1 - z), by omega, by go_num, by go_num, HN2, hid (HBW.out.alloc HBW.out.size _)⟩
        case measure => simp [intOf]; omega
    · obtain rfl : t = q := by omega
      have hR2 : R = (decide (l = 1) || decide (t = 0)) := by rw [← HR.out, HL.out]
      clear HR
      subst hR2
      by_cases h1 : l = 1
      · subst h1
        go_wp2_with fail
        go_ret
        exact ⟨ret_bool (by simp), HBW.out⟩
      · have e1 : (l == 1) = false := by simp [h1]
        go_wp2_with fail
        go_ret
        exact ⟨ret_bool (by simp [h1]; by_cases h : t = 0 <;> simp [h]), HBW.out⟩
end Go.Proofs.Ytioaeijogjcghaa
