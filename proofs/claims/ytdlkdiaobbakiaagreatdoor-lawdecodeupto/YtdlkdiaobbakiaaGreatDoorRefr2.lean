/- The plain answer: runs, the walk. -/
import Derived.Test.YtdlkdiaobbakiaaGreatDoorRefr
set_option linter.unusedVariables false
set_option linter.unusedSimpArgs false
set_option linter.unnecessarySimpa false
set_option maxRecDepth 100000
namespace Go.Proofs.YtdlkdiaobbakiaaGreatDoor
open Go.RowKit

def lenV : Value → Nat
  | .slice _ n _ => n
  | _ => 0
theorem ends_len (m p : Nat) (xs : List Nat) (h : numsOk 4 m p xs.length = true) : (numL 4 (tk (4 * m) (xs.drop p))).length = m := by
  unfold numsOk at h; simp only [decide_eq_true_eq] at h
  rw [numL_length]; unfold tk; rw [if_pos (by rw [List.length_drop]; exact h.2), List.length_take, List.length_drop, Nat.min_eq_left (by omega)]
  omega
theorem replicate_snoc {α : Type} (n : Nat) (x : α) : List.replicate (n + 1) x = List.replicate n x ++ [x] := by
  rw [List.replicate_succ']
set_option maxHeartbeats 16000000 in
theorem runsAt_any (kd : Nat) (hkd : kd = 1 ∨ kd = 2) (v : Value) (xs : List Nat) (p k : Nat) (w : World) (hx : Rd w v xs.length 1 (u8s xs)) (hb : ∀ x ∈ xs, x < 256) (hl : xs.length ≤ 1048576) (hp : p ≤ 1048576) (hk : k ≤ 65536) :
    Calls Tryz.prog 48 #[v, .int .i64 p, .int .i64 kd, .int .i64 k] w fun e w' => PAns w w' e (runsR kd k p xs) := by
  have HNA := hid (numberAt_any v xs p 4 w hx hb hl (by omega) (by omega))
  have HNS := hid (fun (d : Nat) (hd : d ≤ 65536) => by
    have h := numbersAt_any v xs (p + 4) 4 d w hx hb hl (.inl rfl) (by omega) (by omega)
    rw [show ((p + 4 : Nat) : Int) = (p : Int) + 4 by omega] at h
    exact h)
  have HLA := hid (fun (d nx : Nat) (hd : d ≤ 65536) (hn : nx ≤ 2097152) (w2 : World) (hbl : Below w.heap.size w w2) => listAt_any kd hkd v xs nx d w2 (hx.mono hbl) hb hl (by omega) (by omega))
  have HLL := hid (fun m nx => listP_len kd m nx xs)
  obtain ⟨A, ca, rfl, _, _, _⟩ := hx.form
  clear hx
  obtain ⟨R, hR⟩ : ∃ R, runsR kd k p xs = R := ⟨_, rfl⟩
  rw [hR]
  unfold runsR dN at hR
  obtain ⟨ok, hok⟩ : ∃ ok, numOk 4 p xs.length = ok := ⟨_, rfl⟩
  rw [hok] at hR HNA
  have hwl : L.wordOf 8 ((xs.drop p).take 4) < 4294967296 := wordOf4_lt _ (fun x hx => hb x (List.mem_of_mem_drop (List.mem_of_mem_take hx))) (by rw [List.length_take]; omega)
  generalize L.wordOf 8 ((xs.drop p).take 4) = d0 at *
  have HR := hid hR
  clear hR hok
  cases ok
  · have HRN := hid (show R = (false, []) by rw [← HR.out]; simp)
    clear HR
    simp only [Bool.false_eq_true, if_false] at HNA
    go_enter Tryz.func48, Tryz.ntmps48
    go_wp2_with (go_at_call 46; refine HNA.out.mono ?_; rintro e w1 ⟨rfl, hw⟩; replace hw := hw.symm; subst hw)
    go_ret2
    exact pans_no HRN.out (brefl w)
  simp only [if_true] at HNA HR
  by_cases hdk : k < d0
  · have HRN := hid (show R = (false, []) by rw [← HR.out, if_pos (.inr hdk)])
    clear HR
    have hdi : (d0 : Int) > (k : Int) := by omega
    go_enter Tryz.func48, Tryz.ntmps48
    go_wp2_with (go_at_call 46; refine HNA.out.mono ?_; rintro e w1 ⟨rfl, hw⟩; replace hw := hw.symm; subst hw)
    go_ret2
    exact pans_no HRN.out (brefl w)
  have hd0 : d0 ≤ 65536 := by omega
  have hdi : ¬ (d0 : Int) > (k : Int) := by omega
  rw [if_neg (by simp; omega)] at HR
  have HNSd := hid (HNS.out d0 hd0)
  have HEL := hid (ends_len d0 (p + 4) xs)
  have hev : ∀ x ∈ numL 4 (tk (4 * d0) (xs.drop (p + 4))), x < 4294967296 := numL4_lt (tk_lt (fun x h => hb x (List.mem_of_mem_drop h)))
  have HEV := hid hev
  obtain ⟨nx, hnx⟩ : ∃ nx, p + 4 + 4 * d0 = nx := ⟨_, rfl⟩
  have hnl : nx ≤ 2097152 := by omega
  rw [hnx] at HR HNSd
  have HLAd := hid (HLA.out d0 nx hd0 hnl)
  have HLLd := hid (HLL.out d0 nx)
  obtain ⟨no, hno⟩ : ∃ no, numsOk 4 d0 (p + 4) xs.length = no := ⟨_, rfl⟩
  rw [hno] at HR HNSd HEL
  obtain ⟨lo, hlo⟩ : ∃ lo, listOk kd d0 nx xs = lo := ⟨_, rfl⟩
  rw [hlo] at HR HLAd HLLd
  clear HNS HLA HLL hno hlo hnx hev
  generalize numL 4 (tk (4 * d0) (xs.drop (p + 4))) = ends at *
  generalize listP kd d0 nx xs = heads at *
  generalize listNx kd d0 nx xs = nx2 at *
  go_enter Tryz.func48, Tryz.ntmps48
  cases no
  · have HRN := hid (show R = (false, []) by rw [← HR.out]; simp)
    clear HR
    simp only [Bool.false_eq_true, if_false] at HNSd
    go_wp2_with (first
      | (go_at_call 46; refine HNA.out.mono ?_; rintro e w1 ⟨rfl, hw⟩; replace hw := hw.symm; subst hw)
      | (go_at_call 23; refine HNSd.out.mono ?_; rintro e w1 ⟨u, rfl, ho1, hb1⟩; have HB1 := hid hb1; clear ho1 hb1))
    go_ret2
    exact pans_no HRN.out HB1.out
  simp only [Bool.true_eq_false, if_false, if_true] at HNSd HR
  have hel := HEL.out rfl
  cases lo
  · have HRN := hid (show R = (false, []) by rw [← HR.out]; simp)
    clear HR
    go_wp2_with (first
      | (go_at_call 46; refine HNA.out.mono ?_; rintro e w1 ⟨rfl, hw⟩; replace hw := hw.symm; subst hw)
      | (go_at_call 23; refine HNSd.out.mono ?_; rintro e w1 ⟨u, rfl, ho1, hb1⟩; have HB1 := hid hb1; clear ho1 hb1)
      | (go_at_call 50; refine (HLAd.out w1 HB1.out).mono ?_; rintro e w2 ⟨u2, rfl, ho2, hb2⟩; have HB2 := hid (bthen HB1.out hb2); clear ho2 hb2))
    go_ret2
    exact pans_no HRN.out HB2.out
  by_cases hn2 : nx2 = xs.length
  rotate_left
  · have HRN := hid (show R = (false, []) by rw [← HR.out, if_pos (.inr hn2)])
    clear HR
    have hne : ((nx2 : Int) != (xs.length : Int)) = true := by simp; omega
    go_wp2_with (first
      | (go_at_call 46; refine HNA.out.mono ?_; rintro e w1 ⟨rfl, hw⟩; replace hw := hw.symm; subst hw)
      | (go_at_call 23; refine HNSd.out.mono ?_; rintro e w1 ⟨u, rfl, ho1, hb1⟩; have HB1 := hid hb1; clear ho1 hb1)
      | (go_at_call 50; refine (HLAd.out w1 HB1.out).mono ?_; rintro e w2 ⟨u2, rfl, ho2, hb2⟩; have HB2 := hid (bthen HB1.out hb2); clear ho2 hb2))
    go_ret2
    exact pans_no HRN.out HB2.out
  rw [if_neg (by simp; exact hn2)] at HR
  have hne : ((nx2 : Int) != (xs.length : Int)) = false := by simp; omega
  have hdl : heads.length = d0 := HLLd.out rfl hkd
  clear hn2 HEL HLLd
  go_upto_region 10 with (first
      | (go_at_call 46; refine HNA.out.mono ?_; rintro e w1 ⟨rfl, hw⟩; replace hw := hw.symm; subst hw)
      | (go_at_call 23; refine HNSd.out.mono ?_; rintro e w1 ⟨u1, rfl, ho1, hb1⟩; have HB1 := hid hb1; have HO1 := hid (owns_rd ho1); obtain ⟨E, ce, rfl, hce1, hce2, _, _⟩ := owns_form ho1; clear ho1 hb1)
      | (go_at_call 50; refine (HLAd.out w1 HB1.out).mono ?_; rintro e w2 ⟨u2, rfl, ho2, hb2⟩; have HB2 := hid (bthen HB1.out hb2); have HRE := hid (HO1.out.mono hb2); have HRD := hid (owns3_rd ho2); obtain ⟨D, cd, rfl⟩ := owns3_form ho2; clear ho2 hb2))
  rw [hel] at HRE
  rw [hdl] at HRD
  have HDL := hid hdl
  have HEN := hid hel
  have hsz2 := HB2.out.size
  clear HNA HNSd HLAd HO1 HB1 hdl hel hce2 hne
  go_wp2_with fail
  go_loopw [16, 65] (fun s i wz => ∃ t l : Nat, t ≤ d0 ∧ i = .int .i64 t ∧ l ≤ k ∧ Hid (endsUp 0 (nI (ends.take t)) = some (l : Int)) ∧ Hid (∀ u, u + 1 < t → eqP (heads.getD u dfP) (heads.getD (u + 1) dfP) = false) ∧ Hid (wz.ownsRow w2.heap.size 38 3 s l (cellsP (fillP heads ends t))) ∧ Hid (Below w2.heap.size w2 wz)) (fun _ i _ => d0 - (intOf i).toNat)
  case atStart => exact ⟨0, 0, by omega, rfl, by omega, hid rfl, hid (fun u h => absurd h (by omega)), hid ⟨by simp [cellsP, fillP], .inl ⟨rfl, rfl⟩⟩, hid (brefl w2)⟩
  case round =>
    obtain ⟨t, l, ht, rfl, hlk, HUP, HALL, HOWN, HBW⟩ := hrel
    obtain ⟨A2, c2, rfl⟩ := owns3_form HOWN.out
    have hszw := HBW.out.size
    have HBWW := hid (Below.then' HB2.out HBW.out hsz2)
    by_cases hlt : t < d0
    · obtain ⟨eb, eo, rfl, hs⟩ := (HRE.out.mono HBW.out).atW (by omega)
      have e1 := hs t (by rw [HEN.out]; exact hlt)
      have hx32 := HEV.out (ends.getD t 0) (by simp [List.getD, List.getElem?_eq_getElem (show t < ends.length by rw [HEN.out]; exact hlt)])
      have HST := hid (endsUp_step ends t l (by rw [HEN.out]; exact hlt) HUP.out)
      have HFL := hid (fillP_len heads ends t l (by rw [HEN.out]; omega) HUP.out)
      have HF1 : Hid (fillP heads ends (t + 1) = fillP heads ends t ++ List.replicate (ends.getD t 0 - (fillP heads ends t).length) (heads.getD t dfP)) := hid rfl
      rw [HFL.out] at HF1
      have HN1 := hid (runEnds_no1 ends (t + 1) (k : Int))
      have HN2 := hid (runEnds_no2 ends (t + 1) (k : Int))
      clear hs
      generalize ends.getD t 0 = en at *
      by_cases hb1 : en ≤ l
      · have HRN := hid (show R = (false, []) by rw [← HR.out, if_pos (.inr (HN1.out (by rw [HST.out, if_pos hb1])))])
        have i1 : (en : Int) ≤ (l : Int) := by omega
        clear HST HN1 HN2 HF1 HFL
        go_upto_region 14 with fail
        go_quiet (fail)
        go_wp2_with fail
        go_ret2
        exact pans_no HRN.out (bdrew HBWW.out _)
      have i1 : ¬ (en : Int) ≤ (l : Int) := by omega
      have i1d : decide ((en : Int) ≤ (l : Int)) = false := decide_eq_false i1
      rw [if_neg hb1] at HST
      by_cases hb2 : k < en
      · have HRN := hid (show R = (false, []) by rw [← HR.out, if_pos (.inr (HN2.out _ HST.out (by omega)))])
        have i2 : (en : Int) > (k : Int) := by omega
        clear HST HN1 HN2 HF1 HFL
        go_upto_region 14 with fail
        go_quiet (fail)
        go_wp2_with fail
        go_ret2
        exact pans_no HRN.out (bdrew HBWW.out _)
      have i2 : ¬ (en : Int) > (k : Int) := by omega
      have i2d : decide ((en : Int) > (k : Int)) = false := decide_eq_false i2
      clear HN1 HN2
      -- the pair of this run and the one before
      have HPAIR : Hid (t = 0 ∨ eqP (heads.getD (t - 1) dfP) (heads.getD t dfP) = false → ∀ u, u + 1 < t + 1 → eqP (heads.getD u dfP) (heads.getD (u + 1) dfP) = false) := hid (fun h u hu => by
        by_cases hut : u + 1 = t
        · have h := h.resolve_left (by omega)
          rw [show t - 1 = u by omega] at h; rw [hut]; exact h
        · exact HALL.out u (by omega))
      have HBADP : Hid (0 < t → eqP (heads.getD (t - 1) dfP) (heads.getD t dfP) = true → R = (false, [])) := hid (fun h0 h => by
        have hnp : noPair eqP heads = false := by
          rw [← Bool.not_eq_true, noPair_iff eqP dfP]
          intro h2
          have := h2 (t - 1) (by rw [HDL.out]; omega)
          rw [show t - 1 + 1 = t by omega, h] at this; cases this
        rw [← HR.out, if_pos (.inl hnp)])
      have HXO := hid (fun (w2 : World) => fun a b => order_any a b w2)
      obtain ⟨X, hX⟩ : ∃ X, heads.getD t dfP = X := ⟨_, rfl⟩
      have HX := hid hX
      rw [hX] at HF1 HPAIR HBADP
      obtain ⟨xi, xs'⟩ := X
      clear hX
      rcases Nat.eq_zero_or_pos t with ht0 | ht0
      · subst ht0
        have HNXT := hid (HPAIR.out (.inl rfl))
        clear HPAIR HBADP HXO HFL
        obtain ⟨b, o, hDD, hcells⟩ := (HRD.out.mono HBW.out).atP (by omega)
        subst hDD
        clear hcells
        have i3d : decide ((0 : Int) > 0) = false := by decide
        rw [Nat.add_zero] at e1
        go_upto_region 14 with fail
        go_quiet (fail)
        have HBQ : Hid (Below wr.heap.size wr (wr.drewN nq)) := hid (bdrew (brefl wr) nq)
        generalize wr.drewN nq = wq at *
        go_wp2_with fail
        have HOWQ := hid (owns3_below HOWN.out HBQ.out)
        have HB2Q := hid (Below.then' HBW.out HBQ.out HBW.out.size)
        go_loopw [16] (fun s wz => ∃ c : Nat, l ≤ c ∧ c ≤ en ∧ Hid (wz.ownsRow w2.heap.size 38 3 s c (cellsP (fillP heads ends 0 ++ List.replicate (c - l) (xi, xs')))) ∧ Hid (Below w2.heap.size w2 wz)) (fun s _ => en - lenV s)
        case atStart => exact ⟨l, Nat.le_refl _, by omega, hid (by simpa using HOWQ.out), HB2Q⟩
        case round =>
          obtain ⟨c, hc1, hc2, HOC, HBC⟩ := hrel
          obtain ⟨A3, c3, rfl⟩ := owns3_form HOC.out
          have hszc := HBC.out.size
          by_cases hce : c < en
          · obtain ⟨b', o', he, hcells2⟩ := (HRD.out.mono HBC.out).atP (by omega)
            cases he
            obtain ⟨l0', l1', l2'⟩ := hcells2 0 (by rw [HDL.out]; omega)
            rw [HX.out] at l1' l2'
            clear hcells2
            simp only [Nat.zero_mul, Nat.add_zero] at l0' l1' l2'
            have i5 : (c : Int) < (en : Int) := by omega
            go_wp2_with (at_builtin; refine wpList_append3 rfl (.tmp 103) (.tmp 108) rfl 38 [.bool false, .int .i64 0, .string ByteArray.empty] 32 Tryz.underlying26 Tryz.infoCell rfl rfl rfl HOC.out hszc (by intro u hu; simp at hu; rcases hu with rfl | rfl | rfl <;> rfl) (by unfold maxLen; omega) (by omega) ?_; intro v' w' ho hb3)
            go_roundw
            case rel =>
              have HOC2 := hid ho
              rw [← cellsP_snoc _ (xi, xs'), List.append_assoc, ← replicate_snoc, show c - l + 1 = c + 1 - l by omega] at HOC2
              have h1 : l ≤ c + 1 := by omega
              have h2 : c + 1 ≤ en := by omega
              first | exact ⟨c + 1, h1, h2, HOC2, hid (Below.trans HBC.out hb3)⟩ | ((repeat apply Exists.intro); exact ⟨⟨c + 1, h1, h2, HOC2, hid (Below.trans HBC.out hb3)⟩, rfl⟩)
            case measure =>
              obtain ⟨A4, c4, rfl⟩ := owns3_form ho
              simp [lenV]; omega
          · obtain rfl : c = en := by omega
            have i5 : ¬ (c : Int) < (c : Int) := by omega
            go_wp2_with fail
            go_roundw
            case rel => exact ⟨0 + 1, c, by omega, by go_num, by omega, HST, HNXT, hid (by rw [HF1.out]; exact HOC.out), HBC⟩
            case measure => simp [intOf]; omega
      · obtain ⟨u, hu⟩ : ∃ u, t = u + 1 := ⟨t - 1, by omega⟩
        have hu1 : t - 1 = u := by omega
        rw [hu1] at HPAIR HBADP
        obtain ⟨b, o, hDD, hcells⟩ := (HRD.out.mono HBW.out).atP (by omega)
        subst hDD
        obtain ⟨m0, m1, m2⟩ := hcells u (by rw [HDL.out]; omega)
        obtain ⟨l0, l1, l2⟩ := hcells t (by rw [HDL.out]; omega)
        rw [HX.out] at l1 l2
        have HORD := hid (fun (w2 : World) => order_any (heads.getD u dfP) (xi, xs') w2)
        have HG : Hid (eqP (heads.getD u dfP) (xi, xs') = decide (ordP (heads.getD u dfP) (xi, xs') = 0)) := hid rfl
        clear hcells hu1 HXO HFL
        generalize heads.getD u dfP = Y at *
        obtain ⟨yi, ys'⟩ := Y
        simp only at m1 m2 l1 l2 HORD
        generalize ordP (yi, ys') (xi, xs') = od at *
        generalize eqP (yi, ys') (xi, xs') = ge at *
        have i0 : (0 : Int) ≤ (u : Int) := by omega
        have i1' : (u : Int) < (d0 : Int) := by omega
        have i2' : (t : Int) < (d0 : Int) := by omega
        have i3 : (t : Int) > 0 := by omega
        have ia : (t : Int) - 1 = (u : Int) := by omega
        have iw : IntKind.i64.wrap ((t : Int) - 1) = (u : Int) := by rw [ia, IntKind.wrap_i64]; omega
        have iw2 : IntKind.i64.wrap (u : Int) = (u : Int) := by rw [IntKind.wrap_i64]; omega
        have iwe : IntKind.i64.wrap (en : Int) = (en : Int) := by rw [IntKind.wrap_i64]; omega
        have hbl : b < wr.heap.size := World.block_lt_of_cell? wr _ m0
        clear hu
        go_upto_region 14 with fail
        go_region_held3 (fun w' => w'.cell? ⟨b, o + u * 3, none⟩ = some (.bool false) ∧ w'.cell? ⟨b, o + u * 3 + 1, none⟩ = some (.int .i64 yi) ∧ w'.cell? ⟨b, o + u * 3 + 2, none⟩ = some (.string ys') ∧ w'.cell? ⟨b, o + t * 3, none⟩ = some (.bool false) ∧ w'.cell? ⟨b, o + t * 3 + 1, none⟩ = some (.int .i64 xi) ∧ w'.cell? ⟨b, o + t * 3 + 2, none⟩ = some (.string xs')) (go_keep)
          (first | (go_at_call 77; refine (HORD.out _).mono ?_; rintro e w3 ⟨rfl, hb3⟩; have HBQ := hid ((bdrew (brefl wr) 1).trans hb3); have q0 := (hb3.cell (p := ⟨b, o + u * 3, none⟩) hbl).trans m0; have q1 := (hb3.cell (p := ⟨b, o + u * 3 + 1, none⟩) hbl).trans m1; have q2 := (hb3.cell (p := ⟨b, o + u * 3 + 2, none⟩) hbl).trans m2; have q3 := (hb3.cell (p := ⟨b, o + t * 3, none⟩) hbl).trans l0; have q4 := (hb3.cell (p := ⟨b, o + t * 3 + 1, none⟩) hbl).trans l1; have q5 := (hb3.cell (p := ⟨b, o + t * 3 + 2, none⟩) hbl).trans l2; clear hb3))
        by_cases hod : od = 0
        · have HRN := hid (HBADP.out ht0 (by rw [HG.out]; simp [hod]))
          have ho2 : (od == 0) = true := by simp [hod]
          go_wp2_with fail
          go_ret2
          exact pans_no HRN.out (Below.then' HB2.out (Below.then' HBW.out HBQ.out HBW.out.size) hsz2)
        have ho2 : (od == 0) = false := by simp [hod]
        have HNXT := hid (HPAIR.out (.inr (by rw [HG.out]; simp [hod])))
        clear m0 m1 m2 l0 l1 l2 q0 q1 q2 q3 q4 q5 HPAIR HBADP
        generalize w3 = wq at *
        rw [ho2]
        go_wp2_with fail
        have HOWQ := hid (owns3_below HOWN.out HBQ.out)
        have HB2Q := hid (Below.then' HBW.out HBQ.out HBW.out.size)
        go_loopw [16] (fun s wz => ∃ c : Nat, l ≤ c ∧ c ≤ en ∧ Hid (wz.ownsRow w2.heap.size 38 3 s c (cellsP (fillP heads ends t ++ List.replicate (c - l) (xi, xs')))) ∧ Hid (Below w2.heap.size w2 wz)) (fun s _ => en - lenV s)
        case atStart => exact ⟨l, Nat.le_refl _, by omega, hid (by simpa using HOWQ.out), HB2Q⟩
        case round =>
          obtain ⟨c, hc1, hc2, HOC, HBC⟩ := hrel
          obtain ⟨A3, c3, rfl⟩ := owns3_form HOC.out
          have hszc := HBC.out.size
          by_cases hce : c < en
          · obtain ⟨b', o', he, hcells2⟩ := (HRD.out.mono HBC.out).atP (by omega)
            cases he
            obtain ⟨l0', l1', l2'⟩ := hcells2 t (by rw [HDL.out]; omega)
            rw [HX.out] at l1' l2'
            clear hcells2
            simp only at l1' l2'
            have i5 : (c : Int) < (en : Int) := by omega
            go_wp2_with (at_builtin; refine wpList_append3 rfl (.tmp 103) (.tmp 108) rfl 38 [.bool false, .int .i64 0, .string ByteArray.empty] 32 Tryz.underlying26 Tryz.infoCell rfl rfl rfl HOC.out hszc (by intro u hu; simp at hu; rcases hu with rfl | rfl | rfl <;> rfl) (by unfold maxLen; omega) (by omega) ?_; intro v' w' ho hb3)
            go_roundw
            case rel =>
              have HOC2 := hid ho
              rw [← cellsP_snoc _ (xi, xs'), List.append_assoc, ← replicate_snoc, show c - l + 1 = c + 1 - l by omega] at HOC2
              have h1 : l ≤ c + 1 := by omega
              have h2 : c + 1 ≤ en := by omega
              first | exact ⟨c + 1, h1, h2, HOC2, hid (Below.trans HBC.out hb3)⟩ | ((repeat apply Exists.intro); exact ⟨⟨c + 1, h1, h2, HOC2, hid (Below.trans HBC.out hb3)⟩, rfl⟩)
            case measure =>
              obtain ⟨A4, c4, rfl⟩ := owns3_form ho
              simp [lenV]; omega
          · obtain rfl : c = en := by omega
            have i5 : ¬ (c : Int) < (c : Int) := by omega
            go_wp2_with fail
            go_roundw
            case rel => exact ⟨t + 1, c, by omega, by go_num, by omega, HST, HNXT, hid (by rw [HF1.out]; exact HOC.out), HBC⟩
            case measure => simp [intOf]; omega
    · obtain rfl : t = d0 := by omega
      have hup := HUP.out
      rw [show ends.take t = ends by rw [← HEN.out, List.take_length]] at hup
      have hnp : noPair eqP heads = true := (noPair_iff eqP dfP heads).2 (fun z hz => HALL.out z (by rw [← HDL.out]; exact hz))
      have HRR := hid (show R = if l = k then (true, fillP heads ends t) else (false, []) by
        rw [← HR.out, hnp]
        unfold runEnds
        rw [hup]
        by_cases hlk2 : l = k
        · subst hlk2; simp
        · rw [if_neg hlk2, if_pos]; simp; omega)
      have HFL := hid (fillP_len heads ends t l (by rw [HEN.out]; exact Nat.le_refl _) HUP.out)
      clear hup hnp HR
      by_cases hlk2 : l = k
      · subst hlk2
        rw [if_pos rfl] at HRR
        have he : ((l : Int) == (l : Int)) = true := by simp
        go_wp2_with fail
        go_ret2
        rw [HRR.out]
        refine ⟨_, rfl, ⟨_, _, _, rfl⟩, fun _ => ?_, HBWW.out⟩
        simp only
        rw [HFL.out]
        exact owns3_mono HOWN.out hsz2
      · rw [if_neg hlk2] at HRR
        have he : ((l : Int) == (k : Int)) = false := by simp; omega
        go_wp2_with fail
        go_ret2
        rw [HRR.out]
        exact ⟨_, rfl, ⟨_, _, _, rfl⟩, fun h => by simp at h, HBWW.out⟩
end Go.Proofs.YtdlkdiaobbakiaaGreatDoor
