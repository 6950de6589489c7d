/- The law's own helpers over lists of nodes: layNodes, the walk. -/
import Derived.Test.YtioaeijogjcghaaLno
set_option linter.unusedVariables false
set_option linter.unusedSimpArgs false
set_option linter.unnecessarySimpa false
set_option maxRecDepth 20000
namespace Go.Proofs.Ytioaeijogjcghaa
open Go.RowKit

theorem Try.infoNd : (Try.prog.info? 56).map (fun i => (i.zero, i.size, i.bytes)) = some (some (.agg [.int .i64 0, .int .i64 0, .slice none 0 0].toArray), 3, 40) := by kernel_rfl
set_option maxHeartbeats 8000000 in
theorem layNodes_any (v : Value) (L : List Nd) (r : Int) (w : World) (hx : NsIn w v L) (hq : L.length ≤ 1048576) (hl : argsN L L.length ≤ 1048576) :
    Calls Try.prog 21 #[v, .int .i64 r] w fun e w' => ∃ g gc, e = .returned (.slice (some ⟨g, 0, none⟩) (L.length + clipN r) (L.length + clipN r)) ∧ w.heap.size ≤ g ∧ w.heap.size ≤ gc ∧
      Row w' g 56 (nodeVals (argsN L L.length + clipN r) gc (L ++ tailN L.length (clipN r)) (L.length + clipN r)) ∧ Row w' gc 37 (cells3 (flatA (L ++ tailN L.length (clipN r)) (L.length + clipN r))) ∧ Below w.heap.size w w' := by
  have HX := hid hx
  have hmc := clipN_le r
  obtain ⟨m, hmr⟩ : ∃ m, clipN r = m := ⟨_, rfl⟩
  have HCL := hid (fun (w2 : World) => by have := clip_any r w2; rw [hmr] at this; exact this)
  have HLC := hid (fun (v : Value) (w2 : World) (hr : Rd w2 v (flatA L L.length).length 3 (cells3 (flatA L L.length))) => by
    have := layCells_any v (flatA L L.length) r w2 hr (by rw [flatA_len]; omega)
    rw [hmr, flatA_len, ← flatA_hi L m m (Nat.le_refl _)] at this
    exact this)
  rw [hmr]
  rw [hmr] at hmc
  obtain ⟨A, ca, rfl, hlc, hcm, _⟩ := hx
  obtain ⟨L2, hL2⟩ : ∃ L2, L ++ tailN L.length m = L2 := ⟨_, rfl⟩
  have HLO := hid (fun t h => laid_lo L m t h)
  have HHI := hid (fun j h => laid_hi L m j h)
  have HAL := hid (fun t h => argsN_lo L m t h)
  have HAH := hid (fun j h => argsN_hi L m j h)
  rw [hL2] at HLO HHI HAL HAH HLC ⊢
  have HL := hid (fun t (h : t ≤ L.length) => Nat.le_trans (argsN_mono L h) hl)
  obtain ⟨q, hqq⟩ : ∃ q, L.length = q := ⟨_, rfl⟩
  have HQ := hid hqq
  rw [hqq] at HX hlc HLC HLO HHI HAL HAH HL hq hl ⊢
  clear hqq hmr hL2
  unfold maxLen at hcm
  obtain ⟨C, hC⟩ : ∃ C, argsN L q + m = C := ⟨_, rfl⟩
  rw [hC] at HLC ⊢
  have hCb : C ≤ 1049600 := by omega
  go_enter Try.func21, Try.ntmps21
  go_wp2_with fail
  go_loopw [5, 16] (fun s i wr => ∃ t : Nat, t ≤ q ∧ i = .int .i64 t ∧ Hid (wr.ownsRow w.heap.size 37 3 s (argsN L t) (cells3 (flatA L t))) ∧ Hid (Below w.heap.size w wr)) (fun _ i _ => q - (intOf i).toNat)
  case atStart => exact ⟨0, by omega, rfl, hid (⟨by simp [flatA, cells3, argsN], .inl ⟨rfl, rfl⟩⟩), hid (brefl w)⟩
  case round =>
    obtain ⟨t, ht, rfl, HO, HBW⟩ := hrel
    by_cases hlt : t < q
    · obtain ⟨b, o, B, c, rfl, c0, c1, c2, hr⟩ := (HX.out.mono HBW.out).at t (by rw [HQ.out]; exact hlt)
      have HRD := hid hr
      have hn : argsN L (t + 1) ≤ 1048576 := HL.out (t + 1) (by omega)
      have HN : Hid (argsN L (t + 1) = argsN L t + (L.getD t Nd.df).args.length) := hid rfl
      have HFL : Hid (flatA L (t + 1) = flatA L t ++ (L.getD t Nd.df).args) := hid rfl
      rw [HN.out] at hn
      clear hr
      generalize L.getD t Nd.df = x at *
      obtain ⟨op, col, args⟩ := x
      simp only at c0 c1 c2 HRD hn HN HFL
      generalize hal : args.length = al at *
      generalize argsN L t = sa at *
      have hwr := HBW.out.size
      obtain ⟨ro, hbo⟩ := fresh (w := wr) (C := #[.int .i64 op, .int .i64 col, .slice B al c]) (e := 56)
      have HRO := hid ro; have HBO := hid hbo
      have HOW := hid (ownsS_below HO.out hbo)
      have HRD2 := hid (HRD.out.mono hbo)
      have HBW2 := hid (Below.then' HBW.out hbo hwr)
      have hw2 := HBW2.out.size
      clear ro hbo HO HRD
      go_upto_region 5 with fail
      generalize wr.alloc (.cells #[.int .i64 op, .int .i64 col, .slice B al c] 56) = w0 at *
      clear c0 c1 c2
      obtain ⟨k0, k1, k2⟩ := cell3 HRO.out
      go_wp2_with (at_builtin; refine wpList_appendNS rfl (.tmp 20) (.tmp 22) rfl 37 (.agg [.bool false, .int .i64 0, .string ByteArray.empty].toArray) 32 Try.underlying34 Try.infoC3 rfl (by decide) rfl rfl HOW.out hw2 HRD2.out (oneCell_cells3 args) (by unfold maxLen; omega) (by omega) ?_; intro v2 w2 ho2 hb2; have HO2 := hid ho2; have HB2 := hid hb2; clear ho2 hb2)
      go_roundw
      case rel =>
        refine ⟨t + 1, by omega, by go_num, hid ?_, hid (HBW2.out.trans HB2.out)⟩
        rw [HN.out, HFL.out, cells3_append]
        exact HO2.out
      case measure => simp [intOf]; omega
    · obtain rfl : t = q := by omega
      have HRD := hid (ownsS_rd HO.out)
      rw [← flatA_len L t] at HRD
      have HLCw := hid (HLC.out _ wr HRD.out)
      clear HO HRD HLC
      go_upto_region 8 with (go_at_call 12; refine HLCw.out.mono ?_; rintro e w1 ⟨rfl, hr1, hb1, hz1⟩; have HRC1 := hid hr1; have HB1 := hid hb1; clear hr1 hb1 hz1)
      have hgc : wr.heap.size < w1.heap.size := HRC1.out.lt
      have hwr := HBW.out.size
      have HBW1 := hid (Below.then' HBW.out HB1.out hwr)
      clear HBW HB1 HLCw
      generalize wr.heap.size = gc at *
      go_wp2_with (go_at_call 20; refine (HCL.out _).mono ?_; rintro e w2 ⟨rfl, rfl⟩)
      refine upon_makeS 56 [.int .i64 0, .int .i64 0, .slice none 0 0] 3 40 Try.underlying23 Try.infoNd rfl (t + m) (by omega) (by omega) (by omega) (by unfold maxLen; omega) ?_
      intro w3 zs hzs hrow3 hb3 hsz3
      have HRC3 := hid (HRC1.out.mono hb3)
      have HBW3 := hid (Below.then' HBW1.out hb3 HBW1.out.size)
      have hg9 : gc < w2.heap.size := hgc
      have hg92 : w.heap.size ≤ w2.heap.size := HBW1.out.size
      have HRN3 := hid hrow3
      have HZS := hid hzs
      clear hrow3 hb3 hsz3 hzs HRC1 HBW1 hgc
      generalize w2.heap.size = g9 at *
      go_wp2_with fail
      clear HCL HL hl
      go_loopw [10, 36] (fun s i wr => ∃ (j : Nat) (rs : List Value), j ≤ t ∧ i = .int .i64 j ∧ s = .int .i64 (argsN L2 j : Nat) ∧ Hid (rs.length = (t + m - j) * 3) ∧ Hid (Row wr g9 56 (nodeVals C gc L2 j ++ rs)) ∧ Hid (Row wr gc 37 (cells3 (flatA L2 (t + m)))) ∧ Hid (Below w.heap.size w wr)) (fun _ i _ => t - (intOf i).toNat)
      case atStart => exact ⟨0, zs, by omega, rfl, rfl, HZS, HRN3, HRC3, HBW3⟩
      case round =>
        obtain ⟨j, rs, hj, rfl, rfl, HRS, HRN, HRC, HBW⟩ := hrel
        clear HZS HRN3 HRC3 HBW3
        by_cases hlt2 : j < t
        · obtain ⟨b, o, B, c, rfl, c0, c1, c2, hr⟩ := (HX.out.mono HBW.out).at j (by rw [HQ.out]; exact hlt2)
          have HEQ : Hid (L2.getD j Nd.df = L.getD j Nd.df) := hid (HLO.out j hlt2)
          have HNX : Hid (argsN L2 (j + 1) = argsN L2 j + (L.getD j Nd.df).args.length) := hid (by rw [argsN, HEQ.out])
          have hle : argsN L2 (j + 1) ≤ C := by
            have := argsN_mono L2 (show j + 1 ≤ t + m by omega)
            rw [HAH.out m (Nat.le_refl _), hC] at this; exact this
          rw [HNX.out] at hle
          have HNV : Hid (nodeVals C gc L2 (j + 1) = nodeVals C gc L2 j ++ nv C gc (L.getD j Nd.df) (argsN L2 j)) := hid (by rw [nodeVals_succ, HEQ.out])
          obtain ⟨x, y, z, r2, hrs⟩ := three rs (by rw [HRS.out]; omega)
          subst hrs
          have HRS2 : Hid (r2.length = (t + m - (j + 1)) * 3) := hid (by have := HRS.out; simp at this; omega)
          have hpl := nodeVals_len C gc L2 j
          clear hr HEQ HRS
          generalize L.getD j Nd.df = d at *
          obtain ⟨op, col, args⟩ := d
          simp only at c0 c1 c2 hle HNX HNV
          unfold nv at HNV
          simp only at HNV
          generalize hal : args.length = al at *
          generalize argsN L2 j = sa at *
          obtain ⟨ro, hbo⟩ := fresh (w := wr) (C := #[.int .i64 op, .int .i64 col, .slice B al c]) (e := 56)
          have HRO := hid ro; have HBO := hid hbo
          have HRN0 := hid (HRN.out.mono hbo)
          have HRC0 := hid (HRC.out.mono hbo)
          have hwr := HBW.out.size
          have HBW0 := hid (Below.then' HBW.out hbo hwr)
          have hgl : g9 < wr.heap.size := HRN.out.lt
          clear ro hbo HRN HRC HBW HBO
          go_upto_region 13 with fail
          generalize wr.alloc (.cells #[.int .i64 op, .int .i64 col, .slice B al c] 56) = w0 at *
          clear c0 c1 c2
          obtain ⟨k0, k1, k2⟩ := cell3 HRO.out
          have m0 : w0.cell? ⟨g9, j * 3, none⟩ = some x := by rw [HRN0.out.cell, List.getElem?_append_right (by omega), hpl]; simp
          have m1 : w0.cell? ⟨g9, j * 3 + 1, none⟩ = some y := by rw [HRN0.out.cell, List.getElem?_append_right (by omega), hpl]; simp
          have m2 : w0.cell? ⟨g9, j * 3 + 2, none⟩ = some z := by rw [HRN0.out.cell, List.getElem?_append_right (by omega), hpl]; simp
          have f0 := HRN0.out.frozen (j * 3)
          have f1 := HRN0.out.frozen (j * 3 + 1)
          have f2 := HRN0.out.frozen (j * 3 + 2)
          have i1 : (sa : Int) + (al : Int) ≤ (C : Int) := by omega
          have i2 : (0 : Int) ≤ (sa : Int) := by omega
          have i3 : (sa : Int) ≤ (sa : Int) + (al : Int) := by omega
          have i4 : (j : Int) < (t : Int) + (m : Int) := by omega
          obtain ⟨P2, hP2⟩ : ∃ P2, (if C = sa then (some ⟨gc, 0, none⟩ : Option Addr) else some ⟨gc, sa * 3, none⟩) = P2 := ⟨_, rfl⟩
          rw [hP2] at HNV
          have HP2 := hid hP2
          clear hP2
          go_region
          rw [HP2.out]
          have nd : ∀ (W : World) (b : Nat) (e : TypeId) (cs : List Value), Row W b e cs → Row W.drew b e cs := fun W b e cs h => h
          have HRN5 := hid (nd _ _ _ _ (((HRN0.out.set (j * 3) (.int .i64 op)).set (j * 3 + 1) (.int .i64 col)).set (j * 3 + 2) (.slice P2 al (C - sa))))
          rw [set3 _ _ _ _ _ _ _ _ _ hpl, ← HNV.out] at HRN5
          have HRC5 := hid (nd _ _ _ _ (((HRC0.out.other (a := ⟨g9, j * 3, none⟩) (.int .i64 op) (by show gc ≠ g9; omega)).other (a := ⟨g9, j * 3 + 1, none⟩) (.int .i64 col) (by show gc ≠ g9; omega)).other (a := ⟨g9, j * 3 + 2, none⟩) (.slice P2 al (C - sa)) (by show gc ≠ g9; omega)))
          have HRO5 := hid (nd _ _ _ _ (((HRO.out.other (a := ⟨g9, j * 3, none⟩) (.int .i64 op) (by show wr.heap.size ≠ g9; omega)).other (a := ⟨g9, j * 3 + 1, none⟩) (.int .i64 col) (by show wr.heap.size ≠ g9; omega)).other (a := ⟨g9, j * 3 + 2, none⟩) (.slice P2 al (C - sa)) (by show wr.heap.size ≠ g9; omega)))
          have HBW5 := hid (bdrew (below_set (below_set (below_set HBW0.out g9 (j * 3) (.int .i64 op) hg92) g9 (j * 3 + 1) (.int .i64 col) hg92) g9 (j * 3 + 2) (.slice P2 al (C - sa)) hg92) 1)
          have HBW6 : Hid (Below w.heap.size w (((w0.setCell ⟨g9, j * 3, none⟩ (.int .i64 op)).setCell ⟨g9, j * 3 + 1, none⟩ (.int .i64 col)).setCell ⟨g9, j * 3 + 2, none⟩ (.slice P2 al (C - sa))).drew) := HBW5
          clear HRN0 HRC0 HRO HBW0 HBW5 m0 m1 m2 f0 f1 f2 k0 k1 k2 nd HNV HP2
          generalize World.drew (World.setCell (World.setCell (World.setCell w0 ⟨g9, j * 3, none⟩ (.int .i64 op)) ⟨g9, j * 3 + 1, none⟩ (.int .i64 col)) ⟨g9, j * 3 + 2, none⟩ (.slice P2 al (C - sa))) = w5 at *
          obtain ⟨k0, k1, k2⟩ := cell3 HRO5.out
          go_wp2_with fail
          go_roundw
          case rel => exact ⟨j + 1, r2, by omega, by go_num, by rw [HNX.out]; go_num, HRS2, HRN5, HRC5, HBW6⟩
          case measure => simp [intOf]; omega
        · obtain rfl : j = t := by omega
          clear hlt2 hlt
          go_wp2_with fail
          go_loopw [10, 13] (fun s i wr => ∃ (k : Nat) (rs : List Value), k ≤ m ∧ i = .int .i64 (j + k : Nat) ∧ s = .int .i64 (argsN L2 (j + k) : Nat) ∧ Hid (rs.length = (m - k) * 3) ∧ Hid (Row wr g9 56 (nodeVals C gc L2 (j + k) ++ rs)) ∧ Hid (Row wr gc 37 (cells3 (flatA L2 (j + m)))) ∧ Hid (Below w.heap.size w wr)) (fun _ i _ => j + m - (intOf i).toNat)
          case atStart => exact ⟨0, rs, by omega, rfl, rfl, hid (by rw [HRS.out]; congr 1; omega), HRN, HRC, HBW⟩
          case round =>
            clear HRS HRN HRC HBW
            obtain ⟨k, rs, hk, rfl, rfl, HRS, HRN, HRC, HBW⟩ := hrel
            by_cases hlt : k < m
            · have HEQ := hid (HHI.out k hlt)
              have HNX : Hid (argsN L2 (j + k + 1) = argsN L2 (j + k) + 1) := hid (by rw [argsN, HEQ.out]; rfl)
              have hsa : argsN L2 (j + k) = argsN L j + k := HAH.out k hk
              have HNV : Hid (nodeVals C gc L2 (j + k + 1) = nodeVals C gc L2 (j + k) ++ nv C gc ⟨-131 - ((j : Int) + (k : Int)), 0, [⟨true, 131 + (k : Int), ByteArray.empty⟩]⟩ (argsN L2 (j + k))) := hid (by rw [nodeVals_succ, HEQ.out])
              obtain ⟨x, y, z, r2, hrs⟩ := three rs (by rw [HRS.out]; omega)
              subst hrs
              have HRS2 : Hid (r2.length = (m - (k + 1)) * 3) := hid (by have := HRS.out; simp at this; omega)
              have hpl := nodeVals_len C gc L2 (j + k)
              clear HRS HEQ
              unfold nv at HNV
              simp only [List.length_cons, List.length_nil, Nat.zero_add] at HNV
              have hle : argsN L2 (j + k) + 1 ≤ C := by omega
              generalize argsN L2 (j + k) = sa at *
              have m0 : wr.cell? ⟨g9, (j + k) * 3, none⟩ = some x := by rw [HRN.out.cell, List.getElem?_append_right (by omega), hpl]; simp
              have m1 : wr.cell? ⟨g9, (j + k) * 3 + 1, none⟩ = some y := by rw [HRN.out.cell, List.getElem?_append_right (by omega), hpl]; simp
              have m2 : wr.cell? ⟨g9, (j + k) * 3 + 2, none⟩ = some z := by rw [HRN.out.cell, List.getElem?_append_right (by omega), hpl]; simp
              have f0 := HRN.out.frozen ((j + k) * 3)
              have f1 := HRN.out.frozen ((j + k) * 3 + 1)
              have f2 := HRN.out.frozen ((j + k) * 3 + 2)
              have i1 : (sa : Int) + 1 ≤ (C : Int) := by omega
              have i2 : (0 : Int) ≤ (sa : Int) := by omega
              have i3 : (sa : Int) ≤ (sa : Int) + 1 := by omega
              have i4 : (j : Int) + (k : Int) < (j : Int) + (m : Int) := by omega
              clear hsa
              rw [if_neg (show ¬ C = sa by omega)] at HNV
              go_wp2_with fail
              have HRN5 := hid (((HRN.out.set ((j + k) * 3) (.int .i64 (-131 - ((j : Int) + (k : Int))))).set ((j + k) * 3 + 1) (.int .i64 0)).set ((j + k) * 3 + 2) (.slice (some ⟨gc, sa * 3, none⟩) 1 (C - sa)))
              rw [set3 _ _ _ _ _ _ _ _ _ hpl, ← HNV.out] at HRN5
              go_roundw
              case rel =>
                refine ⟨k + 1, r2, by omega, by go_num, by rw [show j + (k + 1) = j + k + 1 from rfl, HNX.out]; go_num, HRS2, HRN5, hid (((HRC.out.other _ (by show gc ≠ g9; omega)).other _ (by show gc ≠ g9; omega)).other _ (by show gc ≠ g9; omega)), hid (below_set (below_set (below_set HBW.out g9 _ _ hg92) g9 _ _ hg92) g9 _ _ hg92)⟩
              case measure => simp [intOf]; omega
            · obtain rfl : k = m := by omega
              have e0 : rs = [] := List.eq_nil_of_length_eq_zero (by rw [HRS.out]; omega)
              subst e0
              rw [List.append_nil] at HRN
              go_wp2_with fail
              go_ret
              exact ⟨g9, gc, rfl, hg92, by omega, HRN.out, HRC.out, HBW.out⟩
end Go.Proofs.Ytioaeijogjcghaa
