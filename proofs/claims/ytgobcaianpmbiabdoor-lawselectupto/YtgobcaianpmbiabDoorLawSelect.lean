/- LawSelect's walk. -/
import Derived.Test.YtgobcaianpmbiabDoorBoth
import Derived.Deep.RegionWith
import Derived.Deep.CutRange
set_option linter.unusedVariables false
set_option linter.unusedSimpArgs false
set_option linter.unnecessarySimpa false
namespace Go.Proofs.YtgobcaianpmbiabDoor
open Go.RowKit

theorem tailW_length (m : Nat) : (tailW m).length = m := by simp [tailW]
theorem row_lay {w : World} {g m : Nat} {xs : List Nat} (h : Row w g 55 (u64s (xs ++ tailW m))) (hl : xs.length + m ≤ maxLen) :
    Rd w (.slice (some ⟨g, 0, none⟩) (xs.length + m) (xs.length + m)) (xs ++ tailW m).length 1 (u64s (xs ++ tailW m)) := by
  have e : (xs ++ tailW m).length = xs.length + m := by simp [tailW_length]
  rw [e]
  exact h.rd' (by rw [u64s_length, e]) hl
theorem row_layI {w : World} {g m : Nat} {xs : List Int} (h : Row w g 3 (i64s (xs ++ tailI m))) (hl : xs.length + m ≤ maxLen) :
    Rd w (.slice (some ⟨g, 0, none⟩) (xs.length + m) (xs.length + m)) (xs ++ tailI m).length 1 (i64s (xs ++ tailI m)) := by
  have e : (xs ++ tailI m).length = xs.length + m := by simp [tailI_length]
  rw [e]
  exact h.rd' (by rw [i64s_length, e]) hl
theorem row_partI {w : World} {g m : Nat} {xs : List Int} (h : Row w g 3 (i64s (xs ++ tailI m))) (hl : xs.length + m ≤ maxLen) :
    Rd w (.slice (some ⟨g, 0, none⟩) xs.length (xs.length + m)) xs.length 1 (i64s xs) := by
  have := h.rd 0 xs.length (xs.length + m) (by simp [i64s]) (by omega) hl
  rw [List.drop_zero, i64s_append, ← i64s_length xs, List.take_left] at this
  rwa [i64s_length] at this
theorem row_fst {w : World} {g m L : Nat} {xs ys : List Nat} (h : Row w g 55 (u64s ((xs ++ ys) ++ tailW m))) (hL : xs.length + ys.length = L) (hl : L + m ≤ maxLen) :
    Rd w (.slice (some ⟨g, 0, none⟩) xs.length (L + m)) xs.length 1 (u64s xs) := by
  have := h.rd 0 xs.length (L + m) (by simp [u64s] <;> omega) (by omega) hl
  rw [List.drop_zero, u64s_append, u64s_append, List.append_assoc, ← u64s_length xs, List.take_left] at this
  rwa [u64s_length] at this
theorem row_snd {w : World} {g m L : Nat} {xs ys : List Nat} (h : Row w g 55 (u64s ((xs ++ ys) ++ tailW m))) (hL : xs.length + ys.length = L) (hl : L + m ≤ maxLen) (c : Nat) (hc : ys.length ≤ c) (hc2 : c ≤ maxLen) :
    Rd w (.slice (some ⟨g, xs.length, none⟩) ys.length c) ys.length 1 (u64s ys) := by
  have := h.rd xs.length ys.length c (by simp [u64s] <;> omega) hc hc2
  rw [u64s_append, u64s_append, List.append_assoc] at this
  have e : (u64s xs ++ (u64s ys ++ u64s (tailW m))).drop xs.length = u64s ys ++ u64s (tailW m) := by
    conv => lhs; rw [← u64s_length xs]
    exact List.drop_left
  rw [e, ← u64s_length ys, List.take_left] at this
  rwa [u64s_length] at this
theorem idxR_le (n : Int) (ws : List Nat) : (idxR n ws).length ≤ 65536 := by
  unfold idxR
  split
  · rename_i h
    simp only [okPack, okLim, Bool.and_eq_true, decide_eq_true_eq] at h
    have := idxN_le ws n.toNat
    omega
  · simp
theorem denseR_len (n : Int) (ps : List Int) : (denseR n ps).length ≤ 65536 := by
  unfold denseR
  split
  · rename_i h
    simp only [denseOk, Bool.and_eq_true, decide_eq_true_eq] at h
    rw [bmL_len]
    have := L.nWords_le (w := 1) (n := ((List.range n.toNat).map fun i : Nat => decide ((i : Int) ∈ ps)).length) (by omega)
    simp only [List.length_map, List.length_range] at this ⊢
    omega
  · simp
theorem expR_len (n : Int) (xs ys : List Nat) : (expR n xs ys).length ≤ 65536 := by
  unfold expR
  split
  · rename_i h
    simp only [expOk, okPack, okLim, Bool.and_eq_true, decide_eq_true_eq] at h
    rw [bmL_len]
    have := L.nWords_le (w := 1) (n := ((List.range n.toNat).map (expF xs ys)).length) (by omega)
    simp only [List.length_map, List.length_range] at this ⊢
    omega
  · simp
theorem expR_lt (n : Int) (xs ys : List Nat) : ∀ x ∈ expR n xs ys, x < 18446744073709551616 := by
  intro x hx
  unfold expR at hx
  split at hx
  · exact (bmL_isBm _).2.1 x hx
  · cases hx

set_option maxRecDepth 100000 in
set_option maxHeartbeats 8000000 in
theorem lawSelect_walk (v0 v3 v4 : Value) (xs ys : List Nat) (ps : List Int) (n i r : Int) (w : World) (ht : Tab w) (hx : Rd w v0 xs.length 1 (u64s xs)) (hp : Rd w v3 ps.length 1 (i64s ps)) (hy : Rd w v4 ys.length 1 (u64s ys))
    (hvx : ∀ x ∈ xs, x < 18446744073709551616) (hvy : ∀ x ∈ ys, x < 18446744073709551616) (hlx : xs.length ≤ 1048576) (hlp : ps.length ≤ 1048576) (hly : ys.length ≤ 1048576) :
    Calls Tryd.prog 4 #[v0, .int .i64 n, .int .i64 i, v3, v4, .int .i64 r] w fun e w' => e = .returned (.bool true) ∧ Below w.heap.size w w' := by
  have hm := clipN_le r
  obtain ⟨m, hmr⟩ : ∃ m, clipN r = m := ⟨_, rfl⟩
  rw [hmr] at hm
  have HMR := hid hmr; have HX := hid hx; have HY := hid hy; have HP := hid hp; have HVX := hid hvx; have HVY := hid hvy; have HT := hid ht
  have HTL := hid ht.lt
  obtain ⟨A0, c0, rfl, hc0, _, _⟩ := hx.form
  obtain ⟨A3, c3, rfl, hc3, _, _⟩ := hp.form
  obtain ⟨A4, c4, rfl, hc4, _, _⟩ := hy.form
  obtain ⟨L, hL⟩ : ∃ L, xs.length + ys.length = L := ⟨_, rfl⟩
  have hLL : (xs ++ ys).length = L := by rw [List.length_append]; exact hL
  have HL := hid hL; have HLL := hid hLL
  have HXM : Hid (xs.length ≤ maxLen) := hid (by unfold maxLen; omega)
  have HYM : Hid (ys.length ≤ maxLen) := hid (by unfold maxLen; omega)
  have HPM : Hid (ps.length ≤ maxLen) := hid (by unfold maxLen; omega)
  have HM : Hid (L + m ≤ maxLen) := hid (by unfold maxLen; omega)
  have HM3 : Hid (ps.length + m ≤ maxLen) := hid (by unfold maxLen; omega)
  have hl1 : xs.length ≤ L := by omega
  have hl2 : L ≤ 2097152 := by omega
  clear hmr hx hy hp hvx hvy ht hc0 hc3 hc4 hL hLL
  go_enter Tryd.func4, Tryd.ntmps4
  go_wp2_with fail
  refine (copyWords_any _ xs _ HX.out hlx).mono ?_
  rintro e w1 ⟨r1, rfl, ho1, hb1⟩
  have HO1 := hid ho1; have HB1 := hid hb1
  clear ho1 hb1
  have hsz1 : w.heap.size ≤ w1.heap.size := HB1.out.size
  go_wp2_with (at_builtin; refine wpList_appendN rfl (.tmp 27) (.tmp 28) rfl 55 (.int .u64 0) 8 Tryd.underlying22 Tryd.info45 rfl rfl rfl HO1.out hsz1 (HY.out.mono HB1.out) (oneCell_u64s ys) (by unfold maxLen; omega) (by omega) ?_; intro v2 w2 ho2 hb2)
  rw [HL.out, ← u64s_append] at ho2
  have HO2 := hid ho2; have HB2 := hid (HB1.out.trans hb2)
  obtain ⟨A2, c2, rfl, hc2, _, _, _⟩ := owns_form ho2
  clear ho2 hb2 hc2 hsz1
  have HRD2 : Hid (Rd w2 (.slice A2 L c2) (xs ++ ys).length 1 (u64s (xs ++ ys))) := hid (by rw [HLL.out]; exact owns_rd HO2.out)
  refine (layWords_any _ (xs ++ ys) r _ HRD2.out (by have := HLL.out; omega)).mono ?_
  rintro e w3 ⟨rfl, hr3, hb3, hz3⟩
  rw [HMR.out] at hr3
  rw [HMR.out, HLL.out]
  have HR3 := hid hr3; have HB3 := hid hb3; have HZ3 := hid hz3
  clear hr3 hb3 hz3
  have HB03 := hid (bthen HB2.out HB3.out)
  have HF3 := hid (row_fst HR3.out HL.out HM.out)
  have HT3 := hid (HT.out.mono HB03.out HTL.out)
  have HX3 := hid (HX.out.mono HB03.out)
  clear HO1
  have HRK1 := hid (Rank_any _ xs n i w3 HF3.out HVX.out HXM.out)
  generalize hrk : rankR n i xs = rk at *
  have HRKE := hid hrk
  clear hrk
  have e1 : (rk != rk) = false := by simp
  go_wp2_with (first | (go_at_call 14; refine HRK1.out.mono ?_; rintro e w4 ⟨rfl, nd4, rfl⟩; have HRF := hid (refRank_any _ xs n i (w3.drewN nd4) HX3.out HVX.out HXM.out); rw [HRKE.out] at HRF) | (go_at_call 15; refine HRF.out.mono ?_; rintro e w4 ⟨rfl, hw⟩; subst hw))
  have HT4 : Hid (Tab (w3.drewN nd4)) := hid (HT.out.mono (bdrew HB03.out nd4) HTL.out)
  have HF4 : Hid (Rd (w3.drewN nd4) (.slice (some ⟨w2.heap.size, 0, none⟩) xs.length (L + m)) xs.length 1 (u64s xs)) := hid (HF3.out.mono (bdrew (brefl w3) nd4))
  have HIX := hid (Indexes_any _ xs n (w3.drewN nd4) HT4.out HF4.out HVX.out HXM.out)
  have HRI := hid (fun (w2 : World) (h : Rd w2 (.slice A0 xs.length c0) xs.length 1 (u64s xs)) => refIndexes_any _ xs n w2 h HVX.out HXM.out)
  have HDI := hid (dense_idx n xs)
  have hil0 := idxR_le n xs
  obtain ⟨il, hil⟩ : ∃ il, (idxR n xs).map (fun p : Nat => (p : Int)) = il := ⟨_, rfl⟩
  have hilen : (idxR n xs).length = il.length := by rw [← hil]; simp
  have hints : ints (idxR n xs) = i64s il := by rw [ints_i64s, hil]
  rw [hilen, hints] at HIX HRI
  rw [hil] at HDI
  rw [hilen] at hil0
  obtain ⟨o1, ho1⟩ : ∃ o1, okPack 1 n xs = o1 := ⟨_, rfl⟩
  rw [ho1] at HIX HRI HDI
  have HILM : Hid (il.length ≤ maxLen) := hid (by unfold maxLen; omega)
  clear hil hilen hints ho1
  refine HIX.out.mono ?_
  rintro e w5 ⟨r5, rfl, ho5, hb5⟩
  obtain ⟨A5, c5, rfl, hc5, _, _, _⟩ := owns_form ho5
  have HO5 := hid ho5
  have HB35 : Hid (Below w3.heap.size w3 w5) := hid (bthen (bdrew (brefl w3) nd4) hb5)
  clear ho5 hb5 hc5
  go_wp2_with fail
  refine (HRI.out w5 (HX3.out.mono HB35.out)).mono ?_
  rintro e w6 ⟨r6, rfl, ho6, hb6⟩
  obtain ⟨A6, c6, rfl, hc6, _, _, _⟩ := owns_form ho6
  have HR5 := hid (owns_rd (owns_below HO5.out hb6))
  have HR6 := hid (owns_rd ho6)
  have HB36 := hid (bthen HB35.out hb6)
  clear ho6 hb6 hc6
  have e2 : (o1 != o1) = false := by simp
  go_upto_if 69 with (go_at_call 18; refine (sameInts_same _ _ il _ HR5.out HR6.out HILM.out).mono ?_; rintro e w7 ⟨rfl, nd6, rfl⟩)
  have HBS : Hid (Below w6.heap.size w6 (w6.drewN nd6)) := hid (bdrew (brefl w6) nd6)
  have HBN : Hid (Below w3.heap.size w3 (w6.drewN nd6)) := hid (bdrew HB36.out nd6)
  generalize w6.drewN nd6 = w7 at *
  go_cut [19, 20] from 25 (fun s19 s20 wc => Hid (Below w3.heap.size w3 wc))
  case first =>
    cases o1
    case false =>
      go_wp2_with fail
      go_meet
      exact HBN
    case true =>
      have hd1 := (HDI.out rfl).1
      have hd2 := (HDI.out rfl).2
      have HDN := hid (fun (w2 : World) (h : Rd w2 (.slice A5 il.length c5) il.length 1 (i64s il)) => Dense_any _ il n w2 h HILM.out)
      rw [hd1, hd2] at HDN
      clear hd1 hd2
      go_wp2_with (first
        | (go_at_call 19; refine (HDN.out _ (HR5.out.mono HBS.out)).mono ?_; rintro e w7 ⟨r7, rfl, ho7, hb7⟩; obtain ⟨A7, c7, rfl, hc7, _, _, _⟩ := owns_form ho7; have HO7 := hid ho7; have HB37 := hid (bthen HBN.out hb7); clear ho7 hb7 hc7)
        | (go_at_call 11; refine (sameWords_same _ _ xs _ (owns_rd HO7.out) (HX3.out.mono HB37.out) HXM.out).mono ?_; rintro e w7b ⟨rfl, nd7, rfl⟩))
      go_meet
      exact hid (bdrew HB37.out nd7)
  case rest =>
    have HB38 : Hid (Below w3.heap.size w3 wc) := hcut
    clear hcut HR5 HR6 HO5 HBS HBN HDI HB36 HB35
    generalize wc = w8 at *
    have HB08 := hid (bthen HB03.out HB38.out)
    go_wp2_with fail
    refine (layInts_any _ ps r _ (HP.out.mono HB08.out) (by omega)).mono ?_
    rintro e w9 ⟨rfl, hr9, hb9, hz9⟩
    rw [HMR.out] at hr9 ⊢
    have HR9 := hid hr9; have HB9 := hid hb9
    have HB39 := hid (bthen HB38.out hb9)
    clear hr9 hb9 hz9
    have HDA := hid (Dense_any _ ps n w9 (row_partI HR9.out HM3.out) HPM.out)
    have HDB := hid (fun (w2 : World) (h : Rd w2 (.slice A3 ps.length c3) ps.length 1 (i64s ps)) => refDense_any _ ps n w2 h HPM.out)
    have hdl := denseR_len n ps
    generalize denseR n ps = dn at *
    generalize denseOk n ps = dk at *
    have HDM : Hid (dn.length ≤ maxLen) := hid (by unfold maxLen; omega)
    go_wp2_with fail
    refine HDA.out.mono ?_
    rintro e w10 ⟨r10, rfl, ho10, hb10⟩
    obtain ⟨A10, c10, rfl, hc10, _, _, _⟩ := owns_form ho10
    have HO10 := hid ho10; have HB10 := hid hb10
    have HB3a := hid (bthen HB39.out hb10)
    clear ho10 hb10 hc10
    go_wp2_with fail
    refine (HDB.out w10 (HP.out.mono (bthen HB03.out HB3a.out))).mono ?_
    rintro e w11 ⟨r11, rfl, ho11, hb11⟩
    obtain ⟨A11, c11, rfl, hc11, _, _, _⟩ := owns_form ho11
    have HRD10 := hid (owns_rd (owns_below HO10.out hb11))
    have HRD11 := hid (owns_rd ho11)
    have HB9b := hid (bthen HB10.out hb11)
    have HB3b := hid (bthen HB39.out HB9b.out)
    clear ho11 hb11 hc11
    have e3 : (dk != dk) = false := by simp
    go_wp2_with (first
      | (go_at_call 11; refine (sameWords_same _ _ dn _ HRD10.out HRD11.out HDM.out).mono ?_; rintro e w12 ⟨rfl, nd11, rfl⟩)
      | (go_at_call 20; refine (layInts_any _ ps r _ (HP.out.mono (bthen HB03.out (bdrew HB3b.out nd11))) (by omega)).mono ?_; rintro e w12 ⟨rfl, hr12, hb12, hz12⟩; rw [HMR.out] at hr12; rw [HMR.out]; have HR12 := hid hr12; have HB12 := hid hb12; clear hr12 hb12 hz12)
      | (go_at_call 18; refine (sameInts_same _ _ (ps ++ tailI m) _ (row_layI ((HR9.out.mono (bdrew HB9b.out nd11)).mono HB12.out) HM3.out) (row_layI HR12.out HM3.out) (by simp [tailI_length]; exact HM3.out)).mono ?_; rintro e w13 ⟨rfl, nd12, rfl⟩))
    have HB313 : Hid (Below w3.heap.size w3 (w12.drewN nd12)) := hid (bdrew (bthen (bdrew HB3b.out nd11) HB12.out) nd12)
    clear HR9 HR12 HO10 HRD10 HRD11 HDA HDB HB9 HB39 HB3a HB9b HB3b HB10
    generalize w12.drewN nd12 = w13 at *
    have HT13 := hid (HT3.out.mono HB313.out (by have := HTL.out; have := HB03.out.size; omega))
    have HR13 := hid (HR3.out.mono HB313.out)
    have HBD : Hid (Below w13.heap.size w13 w13.drew) := hid (bdrew (brefl w13) 1)
    have HTD : Hid (Tab w13.drew) := hid (HT13.out.mono HBD.out (by have := HTL.out; have := HB03.out.size; have := HB313.out.size; omega))
    have HRDW := hid (HR13.out.mono HBD.out)
    have HFD := hid (row_fst HRDW.out HL.out HM.out)
    have HRX := hid (fun (w2 : World) (h1 : Rd w2 (.slice A0 xs.length c0) xs.length 1 (u64s xs)) (h2 : Rd w2 (.slice A4 ys.length c4) ys.length 1 (u64s ys)) => refExpand_any _ _ xs ys n w2 h1 h2 HVX.out HVY.out HXM.out HYM.out)
    have hel := expR_len n xs ys
    have HEV := hid (expR_lt n xs ys)
    obtain ⟨er, her⟩ : ∃ er, expR n xs ys = er := ⟨_, rfl⟩
    obtain ⟨eo, heo⟩ : ∃ eo, expOk n xs ys = eo := ⟨_, rfl⟩
    rw [her, heo] at HRX
    rw [her] at hel HEV
    have HER := hid her; have HEO := hid heo
    clear her heo
    have HEM : Hid (er.length ≤ maxLen) := hid (by unfold maxLen; omega)
    go_cut [24, 16] from 119 (fun s24 s16 wc => ∃ A c, s24 = .slice A er.length c ∧ s16 = .bool eo ∧ Hid (wc.ownsRow w13.drew.heap.size 55 1 (.slice A er.length c) er.length (u64s er)) ∧ Hid (Below w13.drew.heap.size w13.drew wc))
    case first =>
      by_cases hz : L + m = xs.length
      case' pos =>
        have hLe := HL.out
        obtain rfl : m = 0 := by omega
        obtain rfl : L = xs.length := by omega
        have hyn : ys = [] := List.eq_nil_of_length_eq_zero (by omega)
        have HSD : Hid (Rd w13.drew (.slice (some ⟨w2.heap.size, 0, none⟩) 0 0) ys.length 1 (u64s ys)) := hid (by rw [hyn]; exact ⟨by simp [u64s], .inl ⟨⟨_, rfl⟩, rfl⟩⟩)
        clear hyn hLe hz
      case' neg =>
        have HSD : Hid (Rd w13.drew (.slice (some ⟨w2.heap.size, xs.length, none⟩) (L - xs.length) (L + m - xs.length)) ys.length 1 (u64s ys)) := hid (by
          have hLe := HL.out
          have hMe := HM.out
          have e1 : L - xs.length = ys.length := by omega
          rw [e1]
          exact row_snd HRDW.out HL.out HM.out _ (by omega) (by unfold maxLen at hMe ⊢; omega))
        have hs1 : (xs.length : Int) ≤ (L : Int) := by omega
        have hs2 : (xs.length : Int) ≤ (L : Int) + (m : Int) := by omega
        have hs3 : (L : Int) ≤ (L : Int) + (m : Int) := by omega
        have hzf : (L + m = xs.length) = False := by simp [hz]
      all_goals
        have HEX := hid (Expand_any _ _ xs ys n w13.drew HTD.out HFD.out HSD.out HVX.out HVY.out HXM.out HYM.out)
        rw [HER.out, HEO.out] at HEX
        go_region_with (go_at_call 22; refine HEX.out.mono ?_; rintro e w14 ⟨r14, rfl, ho14, hb14⟩; have HO14 := hid ho14; have HB14 := hid hb14; obtain ⟨A14, c14, rfl, hc14, _, _, _⟩ := owns_form ho14; clear ho14 hb14 hc14)
        all_goals (go_wp2_with fail; go_meet; exact ⟨_, _, rfl, rfl, HO14, HB14⟩)
    case rest =>
    obtain ⟨A14, c14, rfl, rfl, HO14, HB14⟩ := hcut
    generalize wc = w14 at *
    have HB3d : Hid (Below w3.heap.size w3 w14) := hid (bthen HB313.out (bthen HBD.out HB14.out))
    go_wp2_with fail
    refine (HRX.out _ (HX.out.mono (bthen HB03.out HB3d.out)) (HY.out.mono (bthen HB03.out HB3d.out))).mono ?_
    rintro e w15 ⟨r15, rfl, ho15, hb15⟩
    obtain ⟨A15, c15, rfl, hc15, _, _, _⟩ := owns_form ho15
    have HRD14 := hid (owns_rd (owns_below HO14.out hb15))
    have HRD15 := hid (owns_rd ho15)
    have HB15 := hid hb15
    clear ho15 hb15 hc15
    have e4 : (eo != eo) = false := by simp
    go_wp2_with (first
      | (go_at_call 11; refine (sameWords_same _ _ er _ HRD14.out HRD15.out HEM.out).mono ?_; rintro e w16 ⟨rfl, nd15, rfl⟩)
      | (go_at_call 24; refine (spoilWords_any w13.drew.heap.size _ er r _ (owns_below HO14.out (bdrew HB15.out nd15)) HEV.out (by have h1 := HB14.out.size; have h2 := HB15.out.size; exact Nat.le_trans h1 h2) (by omega)).mono ?_; rintro e w17 ⟨⟨u, rfl⟩, hb17⟩; have HB17 := hid hb17; clear hb17))
    have HB3f : Hid (Below w3.heap.size w3 w17) := hid (bthen (bthen HB313.out HBD.out) ((bdrew (bthen HB14.out HB15.out) nd15).trans HB17.out))
    have HR17 := hid (HR3.out.mono HB3f.out)
    have HRD17 := hid (HRD2.out.mono (bthen HB3.out HB3f.out))
    refine (layWords_any _ (xs ++ ys) r _ HRD17.out (by have := HLL.out; omega)).mono ?_
    rintro e w18 ⟨rfl, hr18, hb18, hz18⟩
    rw [HMR.out] at hr18
    rw [HMR.out, HLL.out]
    have HR18 := hid hr18; have HB18 := hid hb18
    clear hr18 hb18 hz18
    go_wp2_with fail
    refine (sameWords_same _ _ ((xs ++ ys) ++ tailW m) _ (by have h := row_lay (HR17.out.mono HB18.out) (by rw [HLL.out]; exact HM.out); rw [HLL.out] at h; exact h) (by have h := row_lay HR18.out (by rw [HLL.out]; exact HM.out); rw [HLL.out] at h; exact h) (by have := HM.out; have := HLL.out; rw [List.length_append, tailW_length]; omega)).mono ?_
    rintro e w19 ⟨rfl, nd19, rfl⟩
    go_wp2_with fail
    go_ret
    exact ⟨rfl, bdrew (bthen HB03.out (bthen HB3f.out HB18.out)) nd19⟩
end Go.Proofs.YtgobcaianpmbiabDoor
