/- The plain answer: runs, the walk. -/
import Derived.Test.YthonbfojpbfmgaaGreatDoorLawfilteruptoB7
import Derived.Test.YthonbfojpbfmgaaGreatDoorLawfilteruptoB4
import Derived.Test.YthonbfojpbfmgaaGreatDoorLawfilteruptoB3
import Derived.Test.YthonbfojpbfmgaaGreatDoorLawfilteruptoB1
import Derived.Test.YthonbfojpbfmgaaGreatDoorLawfilteruptoB5
import Derived.Deep.RegionHeld3
set_option linter.unusedVariables false
set_option linter.unusedSimpArgs false
set_option linter.unnecessarySimpa false
set_option maxRecDepth 100000
namespace Go.Proofs.YthonbfojpbfmgaaGreatDoor
open Go.RowKit

def lenV : Value → Nat
  | .slice _ n _ => n
  | _ => 0
theorem ends_len (m p : Nat) (xs : List Nat) (h : numsOk 4 m p xs.length = true) : (numL 4 (tk (4 * m) (xs.drop p))).length = m := by
  unfold numsOk at h; simp only [decide_eq_true_eq] at h
  rw [numL_length]; unfold tk; rw [if_pos (by rw [List.length_drop]; exact h.2), List.length_take, List.length_drop, Nat.min_eq_left (by omega)]
  omega
theorem replicate_snoc {α : Type} (n : Nat) (x : α) : List.replicate (n + 1) x = List.replicate n x ++ [x] := by
  rw [List.replicate_succ']
set_option maxHeartbeats 16000000 in
theorem runsAt_any (kd : Nat) (hkd : kd = 1 ∨ kd = 2) (v : Value) (xs : List Nat) (p k : Nat) (w : World) (hx : Rd w v xs.length 1 (u8s xs)) (hb : ∀ x ∈ xs, x < 256) (hl : xs.length ≤ 16777216) (hp : p ≤ 16777216) (hk : k ≤ 65536) :
    Calls Tryz.prog 113 #[v, .int .i64 p, .int .i64 kd, .int .i64 k] w fun e w' => PAns w w' e (runsR kd k p xs) := by
  have HNA := hid (numberAt_any v xs p 4 w hx hb hl (by omega) (by omega))
  have HNS := hid (fun (d : Nat) (hd : d ≤ 65536) => by
    have h := numbersAt_any v xs (p + 4) 4 d w hx hb hl (.inl rfl) (by omega) (by omega)
    rw [show ((p + 4 : Nat) : Int) = (p : Int) + 4 by omega] at h
    exact h)
  have HLA := hid (fun (d nx : Nat) (hd : d ≤ 65536) (hn : nx ≤ 33554432) (w2 : World) (hbl : Below w.heap.size w w2) => listAt_any kd hkd v xs nx d w2 (hx.mono hbl) hb hl (by omega) (by omega))
  have HLL := hid (fun m nx => listP_len kd m nx xs)
  obtain ⟨A, ca, rfl, _, _, _⟩ := hx.form
  clear hx
  obtain ⟨R, hR⟩ : ∃ R, runsR kd k p xs = R := ⟨_, rfl⟩
  rw [hR]
  unfold runsR dN at hR
  obtain ⟨ok, hok⟩ : ∃ ok, numOk 4 p xs.length = ok := ⟨_, rfl⟩
  rw [hok] at hR HNA
  have hwl : L.wordOf 8 ((xs.drop p).take 4) < 4294967296 := wordOf4_lt _ (fun x hx => hb x (List.mem_of_mem_drop (List.mem_of_mem_take hx))) (by rw [List.length_take]; omega)
  generalize L.wordOf 8 ((xs.drop p).take 4) = d0 at *
  have HR := hid hR
  clear hR hok
  cases ok
  · have HRN := hid (show R = (false, []) by rw [← HR.out]; simp)
    clear HR
    simp only [Bool.false_eq_true, if_false] at HNA
    go_enter Tryz.func113, Tryz.ntmps113
    go_wp2_with (go_at_call 111; refine HNA.out.mono ?_; rintro e w1 ⟨rfl, hw⟩; replace hw := hw.symm; subst hw)
    go_ret2
    exact pans_no HRN.out (brefl w)
  simp only [if_true] at HNA HR
  by_cases hdk : k < d0
  · have HRN := hid (show R = (false, []) by rw [← HR.out, if_pos (.inr hdk)])
    clear HR
    have hdi : (d0 : Int) > (k : Int) := by omega
    go_enter Tryz.func113, Tryz.ntmps113
    go_wp2_with (go_at_call 111; refine HNA.out.mono ?_; rintro e w1 ⟨rfl, hw⟩; replace hw := hw.symm; subst hw)
    go_ret2
    exact pans_no HRN.out (brefl w)
  have hd0 : d0 ≤ 65536 := by omega
  have hdi : ¬ (d0 : Int) > (k : Int) := by omega
  rw [if_neg (by simp; omega)] at HR
  have HNSd := hid (HNS.out d0 hd0)
  have HEL := hid (ends_len d0 (p + 4) xs)
  have hev : ∀ x ∈ numL 4 (tk (4 * d0) (xs.drop (p + 4))), x < 4294967296 := numL4_lt (tk_lt (fun x h => hb x (List.mem_of_mem_drop h)))
  have HEV := hid hev
  obtain ⟨nx, hnx⟩ : ∃ nx, p + 4 + 4 * d0 = nx := ⟨_, rfl⟩
  have hnl : nx ≤ 33554432 := by omega
  rw [hnx] at HR HNSd
  have HLAd := hid (HLA.out d0 nx hd0 hnl)
  have HLLd := hid (HLL.out d0 nx)
  obtain ⟨no, hno⟩ : ∃ no, numsOk 4 d0 (p + 4) xs.length = no := ⟨_, rfl⟩
  rw [hno] at HR HNSd HEL
  obtain ⟨lo, hlo⟩ : ∃ lo, listOk kd d0 nx xs = lo := ⟨_, rfl⟩
  rw [hlo] at HR HLAd HLLd
  clear HNS HLA HLL hno hlo hnx hev
  generalize numL 4 (tk (4 * d0) (xs.drop (p + 4))) = ends at *
  generalize listP kd d0 nx xs = heads at *
  generalize listNx kd d0 nx xs = nx2 at *
  go_enter Tryz.func113, Tryz.ntmps113
  cases no
  · have HRN := hid (show R = (false, []) by rw [← HR.out]; simp)
    clear HR
    simp only [Bool.false_eq_true, if_false] at HNSd
    go_wp2_with (first
      | (go_at_call 111; refine HNA.out.mono ?_; rintro e w1 ⟨rfl, hw⟩; replace hw := hw.symm; subst hw)
      | (go_at_call 59; refine HNSd.out.mono ?_; rintro e w1 ⟨u, rfl, ho1, hb1⟩; have HB1 := hid hb1; clear ho1 hb1))
    go_ret2
    exact pans_no HRN.out HB1.out
  simp only [Bool.true_eq_false, if_false, if_true] at HNSd HR
  have hel := HEL.out rfl
  cases lo
  · have HRN := hid (show R = (false, []) by rw [← HR.out]; simp)
    clear HR
    go_wp2_with (first
      | (go_at_call 111; refine HNA.out.mono ?_; rintro e w1 ⟨rfl, hw⟩; replace hw := hw.symm; subst hw)
      | (go_at_call 59; refine HNSd.out.mono ?_; rintro e w1 ⟨u, rfl, ho1, hb1⟩; have HB1 := hid hb1; clear ho1 hb1)
      | (go_at_call 115; refine (HLAd.out w1 HB1.out).mono ?_; rintro e w2 ⟨u2, rfl, ho2, hb2⟩; have HB2 := hid (bthen HB1.out hb2); clear ho2 hb2))
    go_ret2
    exact pans_no HRN.out HB2.out
  by_cases hn2 : nx2 = xs.length
  rotate_left
  · have HRN := hid (show R = (false, []) by rw [← HR.out, if_pos (.inr hn2)])
    clear HR
    have hne : ((nx2 : Int) != (xs.length : Int)) = true := by simp; omega
    go_wp2_with (first
      | (go_at_call 111; refine HNA.out.mono ?_; rintro e w1 ⟨rfl, hw⟩; replace hw := hw.symm; subst hw)
      | (go_at_call 59; refine HNSd.out.mono ?_; rintro e w1 ⟨u, rfl, ho1, hb1⟩; have HB1 := hid hb1; clear ho1 hb1)
      | (go_at_call 115; refine (HLAd.out w1 HB1.out).mono ?_; rintro e w2 ⟨u2, rfl, ho2, hb2⟩; have HB2 := hid (bthen HB1.out hb2); clear ho2 hb2))
    go_ret2
    exact pans_no HRN.out HB2.out
  rw [if_neg (by simp; exact hn2)] at HR
  have hne : ((nx2 : Int) != (xs.length : Int)) = false := by simp; omega
  have hdl : heads.length = d0 := HLLd.out rfl hkd
  clear hn2 HEL HLLd
  go_upto_region 10 with (first
      | (go_at_call 111; refine HNA.out.mono ?_; rintro e w1 ⟨rfl, hw⟩; replace hw := hw.symm; subst hw)
      | (go_at_call 59; refine HNSd.out.mono ?_; rintro e w1 ⟨u1, rfl, ho1, hb1⟩; have HB1 := hid hb1; have HO1 := hid (owns_rd ho1); obtain ⟨E, ce, rfl, hce1, hce2, _, _⟩ := owns_form ho1; clear ho1 hb1)
      | (go_at_call 115; refine (HLAd.out w1 HB1.out).mono ?_; rintro e w2 ⟨u2, rfl, ho2, hb2⟩; have HB2 := hid (bthen HB1.out hb2); have HRE := hid (HO1.out.mono hb2); have HRD := hid (owns3_rd ho2); obtain ⟨D, cd, rfl⟩ := owns3_form ho2; clear ho2 hb2))
  rw [hel] at HRE
  rw [hdl] at HRD
  have HDL := hid hdl
  have HEN := hid hel
  have hsz2 := HB2.out.size
  clear HNA HNSd HLAd HO1 HB1 hdl hel hce2 hne
  go_wp2_with fail
  go_loopw [16, 65] (fun s i wz => ∃ t l : Nat, t ≤ d0 ∧ i = .int .i64 t ∧ l ≤ k ∧ Hid (endsUp 0 (nI (ends.take t)) = some (l : Int)) ∧ Hid (∀ u, u + 1 < t → eqP (heads.getD u dfP) (heads.getD (u + 1) dfP) = false) ∧ Hid (wz.ownsRow w2.heap.size 42 3 s l (cellsP (fillP heads ends t))) ∧ Hid (Below w2.heap.size w2 wz)) (fun _ i _ => d0 - (intOf i).toNat)
  case atStart => exact ⟨0, 0, by omega, rfl, by omega, hid rfl, hid (fun u h => absurd h (by omega)), hid ⟨by simp [cellsP, fillP], .inl ⟨rfl, rfl⟩⟩, hid (brefl w2)⟩
  case round =>
    obtain ⟨t, l, ht, rfl, hlk, HUP, HALL, HOWN, HBW⟩ := hrel
    obtain ⟨A2, c2, rfl⟩ := owns3_form HOWN.out
    have hszw := HBW.out.size
    have HBWW := hid (Below.then' HB2.out HBW.out hsz2)
    by_cases hlt : t < d0
    · obtain ⟨eb, eo, rfl, hs⟩ := (HRE.out.mono HBW.out).atW (by omega)
      have e1 := hs t (by rw [HEN.out]; exact hlt)
      have hx32 := HEV.out (ends.getD t 0) (by simp [List.getD, List.getElem?_eq_getElem (show t < ends.length by rw [HEN.out]; exact hlt)])
      have HST := hid (endsUp_step ends t l (by rw [HEN.out]; exact hlt) HUP.out)
      have HFL := hid (fillP_len heads ends t l (by rw [HEN.out]; omega) HUP.out)
      have HF1 : Hid (fillP heads ends (t + 1) = fillP heads ends t ++ List.replicate (ends.getD t 0 - (fillP heads ends t).length) (heads.getD t dfP)) := hid rfl
      rw [HFL.out] at HF1
      have HN1 := hid (runEnds_no1 ends (t + 1) (k : Int))
      have HN2 := hid (runEnds_no2 ends (t + 1) (k : Int))
      clear hs
      generalize ends.getD t 0 = en at *
      by_cases hb1 : en ≤ l
      · have HRN := hid (show R = (false, []) by rw [← HR.out, if_pos (.inr (HN1.out (by rw [HST.out, if_pos hb1])))])
        have i1 : (en : Int) ≤ (l : Int) := by omega
        clear HST HN1 HN2 HF1 HFL
        go_upto_region 14 with fail
        go_quiet (fail)
        go_wp2_with fail
        go_ret2
        exact pans_no HRN.out (bdrew HBWW.out _)
      have i1 : ¬ (en : Int) ≤ (l : Int) := by omega
      have i1d : decide ((en : Int) ≤ (l : Int)) = false := decide_eq_false i1
      rw [if_neg hb1] at HST
      by_cases hb2 : k < en
      · have HRN := hid (show R = (false, []) by rw [← HR.out, if_pos (.inr (HN2.out _ HST.out (by omega)))])
        have i2 : (en : Int) > (k : Int) := by omega
        clear HST HN1 HN2 HF1 HFL
        go_upto_region 14 with fail
        go_quiet (fail)
        go_wp2_with fail
        go_ret2
        exact pans_no HRN.out (bdrew HBWW.out _)
      have i2 : ¬ (en : Int) > (k : Int) := by omega
      have i2d : decide ((en : Int) > (k : Int)) = false := decide_eq_false i2
      clear HN1 HN2
      -- the pair of this run and the one before
      have HPAIR : Hid (t = 0 ∨ eqP (heads.getD (t - 1) dfP) (heads.getD t dfP) = false → ∀ u, u + 1 < t + 1 → eqP (heads.getD u dfP) (heads.getD (u + 1) dfP) = false) := hid (fun h u hu => by
        by_cases hut : u + 1 = t
        · have h := h.resolve_left (by omega)
          rw [show t - 1 = u by omega] at h; rw [hut]; exact h
        · exact HALL.out u (by omega))
      have HBADP : Hid (0 < t → eqP (heads.getD (t - 1) dfP) (heads.getD t dfP) = true → R = (false, [])) := hid (fun h0 h => by
        have hnp : noPair eqP heads = false := by
          rw [← Bool.not_eq_true, noPair_iff eqP dfP]
          intro h2
          have := h2 (t - 1) (by rw [HDL.out]; omega)
          rw [show t - 1 + 1 = t by omega, h] at this; cases this
        rw [← HR.out, if_pos (.inl hnp)])
      have HXO := hid (fun (w2 : World) => fun a b => order_any a b w2)
      obtain ⟨X, hX⟩ : ∃ X, heads.getD t dfP = X := ⟨_, rfl⟩
      have HX := hid hX
      rw [hX] at HF1 HPAIR HBADP
      obtain ⟨xi, xs'⟩ := X
      clear hX
      rcases Nat.eq_zero_or_pos t with ht0 | ht0
      · subst ht0
        have HNXT := hid (HPAIR.out (.inl rfl))
        clear HPAIR HBADP HXO HFL
        obtain ⟨b, o, hDD, hcells⟩ := (HRD.out.mono HBW.out).atP (by omega)
        subst hDD
        clear hcells
        have i3d : decide ((0 : Int) > 0) = false := by decide
        rw [Nat.add_zero] at e1
        go_upto_region 14 with fail
        go_quiet (fail)
        have HBQ : Hid (Below wr.heap.size wr (wr.drewN nq)) := hid (bdrew (brefl wr) nq)
        generalize wr.drewN nq = wq at *
        go_wp2_with fail
        have HOWQ := hid (owns3_below HOWN.out HBQ.out)
        have HB2Q := hid (Below.then' HBW.out HBQ.out HBW.out.size)
        go_loopw [16] (fun s wz => ∃ c : Nat, l ≤ c ∧ c ≤ en ∧ Hid (wz.ownsRow w2.heap.size 42 3 s c (cellsP (fillP heads ends 0 ++ List.replicate (c - l) (xi, xs')))) ∧ Hid (Below w2.heap.size w2 wz)) (fun s _ => en - lenV s)
        case atStart => exact ⟨l, Nat.le_refl _, by omega, hid (by simpa using HOWQ.out), HB2Q⟩
        case round =>
          obtain ⟨c, hc1, hc2, HOC, HBC⟩ := hrel
          obtain ⟨A3, c3, rfl⟩ := owns3_form HOC.out
          have hszc := HBC.out.size
          by_cases hce : c < en
          · obtain ⟨b', o', he, hcells2⟩ := (HRD.out.mono HBC.out).atP (by omega)
            cases he
            obtain ⟨l0', l1', l2'⟩ := hcells2 0 (by rw [HDL.out]; omega)
            rw [HX.out] at l1' l2'
            clear hcells2
            simp only [Nat.zero_mul, Nat.add_zero] at l0' l1' l2'
            have i5 : (c : Int) < (en : Int) := by omega
            go_wp2_with (at_builtin; refine wpList_append3 rfl (.tmp 103) (.tmp 108) rfl 42 [.bool false, .int .i64 0, .string ByteArray.empty] 32 Tryz.underlying23 Tryz.infoCell rfl rfl rfl HOC.out hszc (by intro u hu; simp at hu; rcases hu with rfl | rfl | rfl <;> rfl) (by unfold maxLen; omega) (by omega) ?_; intro v' w' ho hb3)
            go_roundw
            case rel =>
              have HOC2 := hid ho
              rw [← cellsP_snoc _ (xi, xs'), List.append_assoc, ← replicate_snoc, show c - l + 1 = c + 1 - l by omega] at HOC2
              have h1 : l ≤ c + 1 := by omega
              have h2 : c + 1 ≤ en := by omega
              first | exact ⟨c + 1, h1, h2, HOC2, hid (Below.trans HBC.out hb3)⟩ | ((repeat apply Exists.intro); exact ⟨⟨c + 1, h1, h2, HOC2, hid (Below.trans HBC.out hb3)⟩, rfl⟩)
            case measure =>
              obtain ⟨A4, c4, rfl⟩ := owns3_form ho
              simp [lenV]; omega
          · obtain rfl : c = en := by omega
            have i5 : ¬ (c : Int) < (c : Int) := by omega
            go_wp2_with fail
            go_roundw
            case rel => exact ⟨0 + 1, c, by omega, by go_num, by omega, HST, HNXT, hid (by rw [HF1.out]; exact HOC.out), HBC⟩
            case measure => simp [intOf]; omega
      · obtain ⟨u, hu⟩ : ∃ u, t = u + 1 := ⟨t - 1, by omega⟩
        have hu1 : t - 1 = u := by omega
        rw [hu1] at HPAIR HBADP
        obtain ⟨b, o, hDD, hcells⟩ := (HRD.out.mono HBW.out).atP (by omega)
        subst hDD
        obtain ⟨m0, m1, m2⟩ := hcells u (by rw [HDL.out]; omega)
        obtain ⟨l0, l1, l2⟩ := hcells t (by rw [HDL.out]; omega)
        rw [HX.out] at l1 l2
        have HORD := hid (fun (w2 : World) => order_any (heads.getD u dfP) (xi, xs') w2)
        have HG : Hid (eqP (heads.getD u dfP) (xi, xs') = decide (ordP (heads.getD u dfP) (xi, xs') = 0)) := hid rfl
        clear hcells hu1 HXO HFL
        generalize heads.getD u dfP = Y at *
        obtain ⟨yi, ys'⟩ := Y
        simp only at m1 m2 l1 l2 HORD
        generalize ordP (yi, ys') (xi, xs') = od at *
        generalize eqP (yi, ys') (xi, xs') = ge at *
        have i0 : (0 : Int) ≤ (u : Int) := by omega
        have i1' : (u : Int) < (d0 : Int) := by omega
        have i2' : (t : Int) < (d0 : Int) := by omega
        have i3 : (t : Int) > 0 := by omega
        have ia : (t : Int) - 1 = (u : Int) := by omega
        have iw : IntKind.i64.wrap ((t : Int) - 1) = (u : Int) := by rw [ia, IntKind.wrap_i64]; omega
        have iw2 : IntKind.i64.wrap (u : Int) = (u : Int) := by rw [IntKind.wrap_i64]; omega
        have iwe : IntKind.i64.wrap (en : Int) = (en : Int) := by rw [IntKind.wrap_i64]; omega
        have hbl : b < wr.heap.size := World.block_lt_of_cell? wr _ m0
        clear hu
        go_upto_region 14 with fail
        go_region_held3 (fun w' => w'.cell? ⟨b, o + u * 3, none⟩ = some (.bool false) ∧ w'.cell? ⟨b, o + u * 3 + 1, none⟩ = some (.int .i64 yi) ∧ w'.cell? ⟨b, o + u * 3 + 2, none⟩ = some (.string ys') ∧ w'.cell? ⟨b, o + t * 3, none⟩ = some (.bool false) ∧ w'.cell? ⟨b, o + t * 3 + 1, none⟩ = some (.int .i64 xi) ∧ w'.cell? ⟨b, o + t * 3 + 2, none⟩ = some (.string xs')) (go_keep)
          (first | (go_at_call 64; refine (HORD.out _).mono ?_; rintro e w3 ⟨rfl, hb3⟩; have HBQ := hid ((bdrew (brefl wr) 1).trans hb3); have q0 := (hb3.cell (p := ⟨b, o + u * 3, none⟩) hbl).trans m0; have q1 := (hb3.cell (p := ⟨b, o + u * 3 + 1, none⟩) hbl).trans m1; have q2 := (hb3.cell (p := ⟨b, o + u * 3 + 2, none⟩) hbl).trans m2; have q3 := (hb3.cell (p := ⟨b, o + t * 3, none⟩) hbl).trans l0; have q4 := (hb3.cell (p := ⟨b, o + t * 3 + 1, none⟩) hbl).trans l1; have q5 := (hb3.cell (p := ⟨b, o + t * 3 + 2, none⟩) hbl).trans l2; clear hb3))
        by_cases hod : od = 0
        · have HRN := hid (HBADP.out ht0 (by rw [HG.out]; simp [hod]))
          have ho2 : (od == 0) = true := by simp [hod]
          go_wp2_with fail
          go_ret2
          exact pans_no HRN.out (Below.then' HB2.out (Below.then' HBW.out HBQ.out HBW.out.size) hsz2)
        have ho2 : (od == 0) = false := by simp [hod]
        have HNXT := hid (HPAIR.out (.inr (by rw [HG.out]; simp [hod])))
        clear m0 m1 m2 l0 l1 l2 q0 q1 q2 q3 q4 q5 HPAIR HBADP
        generalize w3 = wq at *
        rw [ho2]
        go_wp2_with fail
        have HOWQ := hid (owns3_below HOWN.out HBQ.out)
        have HB2Q := hid (Below.then' HBW.out HBQ.out HBW.out.size)
        go_loopw [16] (fun s wz => ∃ c : Nat, l ≤ c ∧ c ≤ en ∧ Hid (wz.ownsRow w2.heap.size 42 3 s c (cellsP (fillP heads ends t ++ List.replicate (c - l) (xi, xs')))) ∧ Hid (Below w2.heap.size w2 wz)) (fun s _ => en - lenV s)
        case atStart => exact ⟨l, Nat.le_refl _, by omega, hid (by simpa using HOWQ.out), HB2Q⟩
        case round =>
          obtain ⟨c, hc1, hc2, HOC, HBC⟩ := hrel
          obtain ⟨A3, c3, rfl⟩ := owns3_form HOC.out
          have hszc := HBC.out.size
          by_cases hce : c < en
          · obtain ⟨b', o', he, hcells2⟩ := (HRD.out.mono HBC.out).atP (by omega)
            cases he
            obtain ⟨l0', l1', l2'⟩ := hcells2 t (by rw [HDL.out]; omega)
            rw [HX.out] at l1' l2'
            clear hcells2
            simp only at l1' l2'
            have i5 : (c : Int) < (en : Int) := by omega
            go_wp2_with (at_builtin; refine wpList_append3 rfl (.tmp 103) (.tmp 108) rfl 42 [.bool false, .int .i64 0, .string ByteArray.empty] 32 Tryz.underlying23 Tryz.infoCell rfl rfl rfl HOC.out hszc (by intro u hu; simp at hu; rcases hu with rfl | rfl | rfl <;> rfl) (by unfold maxLen; omega) (by omega) ?_; intro v' w' ho hb3)
            go_roundw
            case rel =>
              have HOC2 := hid ho
              rw [← cellsP_snoc _ (xi, xs'), List.append_assoc, ← replicate_snoc, show c - l + 1 = c + 1 - l by omega] at HOC2
              have h1 : l ≤ c + 1 := by omega
              have h2 : c + 1 ≤ en := by omega
              first | exact ⟨c + 1, h1, h2, HOC2, hid (Below.trans HBC.out hb3)⟩ | ((repeat apply Exists.intro); exact ⟨⟨c + 1, h1, h2, HOC2, hid (Below.trans HBC.out hb3)⟩, rfl⟩)
            case measure =>
              obtain ⟨A4, c4, rfl⟩ := owns3_form ho
              simp [lenV]; omega
          · obtain rfl : c = en := by omega
            have i5 : ¬ (c : Int) < (c : Int) := by omega
            go_wp2_with fail
            go_roundw
            case rel => exact ⟨t + 1, c, by omega, by go_num, by omega, HST, HNXT, hid (by rw [HF1.out]; exact HOC.out), HBC⟩
            case measure => simp [intOf]; omega
    · obtain rfl : t = d0 := by omega
      have hup := HUP.out
      rw [show ends.take t = ends by rw [← HEN.out, List.take_length]] at hup
      have hnp : noPair eqP heads = true := (noPair_iff eqP dfP heads).2 (fun z hz => HALL.out z (by rw [← HDL.out]; exact hz))
      have HRR := hid (show R = if l = k then (true, fillP heads ends t) else (false, []) by
        rw [← HR.out, hnp]
        unfold runEnds
        rw [hup]
        by_cases hlk2 : l = k
        · subst hlk2; simp
        · rw [if_neg hlk2, if_pos]; simp; omega)
      have HFL := hid (fillP_len heads ends t l (by rw [HEN.out]; exact Nat.le_refl _) HUP.out)
      clear hup hnp HR
      by_cases hlk2 : l = k
      · subst hlk2
        rw [if_pos rfl] at HRR
        have he : ((l : Int) == (l : Int)) = true := by simp
        go_wp2_with fail
        go_ret2
        rw [HRR.out]
        refine ⟨_, rfl, ⟨_, _, _, rfl⟩, fun _ => ?_, HBWW.out⟩
        simp only
        rw [HFL.out]
        exact owns3_mono HOWN.out hsz2
      · rw [if_neg hlk2] at HRR
        have he : ((l : Int) == (k : Int)) = false := by simp; omega
        go_wp2_with fail
        go_ret2
        rw [HRR.out]
        exact ⟨_, rfl, ⟨_, _, _, rfl⟩, fun h => by simp at h, HBWW.out⟩
end Go.Proofs.YthonbfojpbfmgaaGreatDoor

/- The plain answer: whole payloads. -/
set_option linter.unusedVariables false
set_option linter.unusedSimpArgs false
set_option linter.unnecessarySimpa false
set_option maxRecDepth 100000
namespace Go.Proofs.YthonbfojpbfmgaaGreatDoor
open Go.RowKit

def payR (kd cd wd k p : Nat) (xs : List Nat) : Bool × List PV :=
  if cd = 2 then dictR kd wd k p xs
  else if cd = 3 then ((runsR kd k p xs).1 && decide (wd = 0), (runsR kd k p xs).2)
  else if cd = 4 then (if numOk 8 p xs.length = false ∨ 64 < wd ∨ ¬ kd = 1 then (false, []) else
    (fits (sgn64 (L.wordOf 8 ((xs.drop p).take 8))) (lanesV wd k (p + 8) xs) && lanesOk wd k (p + 8) xs, (sumsL (sgn64 (L.wordOf 8 ((xs.drop p).take 8))) (lanesV wd k (p + 8) xs)).map pI))
  else if cd = 5 then (if 64 < wd ∨ ¬ kd = 1 then (false, []) else (fits 0 (lanesV wd k p xs) && lanesOk wd k p xs, (sumsL 0 (lanesV wd k p xs)).map pI))
  else (listOk kd k p xs && decide (listNx kd k p xs = xs.length) && decide (cd = 1) && decide (wd = 0), listP kd k p xs)
set_option maxHeartbeats 8000000 in
theorem payloadAt_any (kd : Nat) (hkd : kd = 1 ∨ kd = 2) (v : Value) (xs : List Nat) (p cd wd k : Nat) (w : World) (hx : Rd w v xs.length 1 (u8s xs)) (hb : ∀ x ∈ xs, x < 256) (hl : xs.length ≤ 16777216) (hp : p ≤ 16777216) (hk : k ≤ 65536) (hcd : cd < 256) (hwd : wd < 256) :
    Calls Tryz.prog 61 #[v, .int .i64 p, .int .i64 kd, .int .i64 cd, .int .i64 wd, .int .i64 k] w fun e w' => PAns w w' e (payR kd cd wd k p xs) := by
  have HDA := hid (dictAt_any kd hkd v xs p wd k w hx hb hl hp hk)
  have HRA := hid (runsAt_any kd hkd v xs p k w hx hb hl hp hk)
  have HLA := hid (listAt_any kd hkd v xs p k w hx hb hl (by omega) (by omega))
  have HNA := hid (numberAt_any v xs p 8 w hx hb hl (by omega) (by omega))
  have HS5 := hid (sumsAt_any v xs p wd k 0 w hx hb hl (by omega) (by omega) (by omega))
  have HS4 := hid (by
    have h := sumsAt_any v xs (p + 8) wd k (sgn64 (L.wordOf 8 ((xs.drop p).take 8))) w hx hb hl (by omega) (sgn64_bd _).1 (sgn64_bd _).2
    rw [show ((p + 8 : Nat) : Int) = (p : Int) + 8 by omega] at h
    exact h)
  obtain ⟨A, ca, rfl, _, _, _⟩ := hx.form
  clear hx
  obtain ⟨R, hR⟩ : ∃ R, payR kd cd wd k p xs = R := ⟨_, rfl⟩
  rw [hR]
  unfold payR at hR
  have HR := hid hR
  clear hR
  by_cases h2 : cd = 2
  · subst h2
    rw [if_pos rfl] at HR
    rw [HR.out] at HDA
    go_enter Tryz.func61, Tryz.ntmps61
    go_wp2_with (go_at_call 112; refine HDA.out.mono ?_; rintro e w1 ⟨u, rfl, ⟨U, n, c, rfl⟩, h3, h4⟩; have H3 := hid h3; have H4 := hid h4; clear h3 h4)
    go_ret2
    exact ⟨_, rfl, ⟨_, _, _, rfl⟩, H3.out, H4.out⟩
  rw [if_neg h2] at HR
  have e2 : ((cd : Int) == 2) = false := by simp; omega
  by_cases h3 : cd = 3
  · subst h3
    rw [if_pos rfl] at HR
    obtain ⟨R3, hR3⟩ : ∃ R3, runsR kd k p xs = R3 := ⟨_, rfl⟩
    rw [hR3] at HR HRA
    obtain ⟨rb, rv⟩ := R3
    simp only at HR
    have ew : ((wd : Int) == 0) = decide (wd = 0) := by by_cases h : wd = 0 <;> simp [h]
    have HR2 := hid (show R = (rb && decide (wd = 0), rv) from HR.out.symm)
    clear HR hR3
    go_enter Tryz.func61, Tryz.ntmps61
    cases rb
    · go_wp2_with (go_at_call 113; refine HRA.out.mono ?_; rintro e w1 ⟨u, rfl, ⟨U, n, c, rfl⟩, h3, h4⟩; have H3 := hid h3; have H4 := hid h4; clear h3 h4)
      go_ret2
      rw [HR2.out]
      exact ⟨_, rfl, ⟨_, _, _, rfl⟩, (fun h => by simp at h), H4.out⟩
    · go_wp2_with (go_at_call 113; refine HRA.out.mono ?_; rintro e w1 ⟨u, rfl, ⟨U, n, c, rfl⟩, h3, h4⟩; have H3 := hid h3; have H4 := hid h4; clear h3 h4)
      go_ret2
      rw [HR2.out]
      exact ⟨.slice U n c, by simp, ⟨U, n, c, rfl⟩, (fun _ => by first | exact H3.out rfl | exact H3.out trivial | exact H3.out), H4.out⟩
  rw [if_neg h3] at HR
  have e3 : ((cd : Int) == 3) = false := by simp; omega
  have e1k : ((kd : Int) != 1) = !decide (kd = 1) := by rcases hkd with h | h <;> subst h <;> rfl
  by_cases h4 : cd = 4
  · subst h4
    rw [if_pos rfl] at HR
    have hX : L.wordOf 8 ((xs.drop p).take 8) < 18446744073709551616 := wordOf8_lt _ (fun x hx => hb x (List.mem_of_mem_drop (List.mem_of_mem_take hx))) (by rw [List.length_take]; omega)
    unfold sgn64 at HS4 HR
    obtain ⟨ok, hok⟩ : ∃ ok, numOk 8 p xs.length = ok := ⟨_, rfl⟩
    rw [hok] at HNA HR
    generalize L.wordOf 8 ((xs.drop p).take 8) = X at *
    clear HDA HRA HLA HS5 hok e2
    cases ok
    · have HRN := hid (show R = (false, []) by rw [← HR.out, if_pos (.inl rfl)])
      clear HR HS4
      simp only [Bool.false_eq_true, if_false] at HNA
      go_enter Tryz.func61, Tryz.ntmps61
      go_wp2_with (go_at_call 111; refine HNA.out.mono ?_; rintro e w1 ⟨rfl, hw⟩; replace hw := hw.symm; subst hw)
      go_ret2
      exact pans_no HRN.out (brefl w)
    simp only [if_true] at HNA
    by_cases h64 : 64 < wd
    · have HRN := hid (show R = (false, []) by rw [← HR.out, if_pos (.inr (.inl h64))])
      have i1 : (wd : Int) > 64 := by omega
      clear HR HS4
      go_enter Tryz.func61, Tryz.ntmps61
      go_wp2_with (go_at_call 111; refine HNA.out.mono ?_; rintro e w1 ⟨rfl, hw⟩; replace hw := hw.symm; subst hw)
      go_ret2
      exact pans_no HRN.out (brefl w)
    have i1 : ¬ (wd : Int) > 64 := by omega
    rcases hkd with hkd | hkd
    rotate_left
    · have HRN := hid (show R = (false, []) by rw [← HR.out, if_pos (.inr (.inr (by omega)))])
      clear HR HS4
      subst hkd
      go_enter Tryz.func61, Tryz.ntmps61
      go_wp2_with (go_at_call 111; refine HNA.out.mono ?_; rintro e w1 ⟨rfl, hw⟩; replace hw := hw.symm; subst hw)
      go_ret2
      exact pans_no HRN.out (brefl w)
    rw [if_neg (by simp; omega)] at HR
    subst hkd
    generalize (fits (wrap64 (X : Int)) (lanesV wd k (p + 8) xs) && lanesOk wd k (p + 8) xs) = F at *
    generalize sumsL (wrap64 (X : Int)) (lanesV wd k (p + 8) xs) = SL at *
    go_enter Tryz.func61, Tryz.ntmps61
    go_wp2_with (first
      | (go_at_call 111; refine HNA.out.mono ?_; rintro e w1 ⟨rfl, hw⟩; replace hw := hw.symm; subst hw)
      | (go_at_call 114; refine HS4.out.mono ?_; rintro e w1 ⟨u, rfl, ho1, hb1⟩; have HO1 := hid ho1; have HB1 := hid hb1; obtain ⟨D, cd, rfl⟩ := owns3_form ho1; clear ho1 hb1))
    go_ret2
    rw [← HR.out]
    exact ⟨_, rfl, ⟨_, _, _, rfl⟩, fun _ => by rw [List.length_map, ← cellsI_P]; exact HO1.out, HB1.out⟩
  rw [if_neg h4] at HR
  have e4 : ((cd : Int) == 4) = false := by simp; omega
  by_cases h5 : cd = 5
  · subst h5
    rw [if_pos rfl] at HR
    clear HDA HRA HLA HS4 HNA e2 e3 e4
    by_cases h64 : 64 < wd
    · have HRN := hid (show R = (false, []) by rw [← HR.out, if_pos (.inl h64)])
      have i1 : (wd : Int) > 64 := by omega
      clear HR HS5
      go_enter Tryz.func61, Tryz.ntmps61
      go_wp2
      go_ret2
      exact pans_no HRN.out (brefl w)
    have i1 : ¬ (wd : Int) > 64 := by omega
    rcases hkd with hkd | hkd
    rotate_left
    · have HRN := hid (show R = (false, []) by rw [← HR.out, if_pos (.inr (by omega))])
      clear HR HS5
      subst hkd
      go_enter Tryz.func61, Tryz.ntmps61
      go_wp2
      go_ret2
      exact pans_no HRN.out (brefl w)
    rw [if_neg (by omega)] at HR
    subst hkd
    generalize (fits 0 (lanesV wd k p xs) && lanesOk wd k p xs) = F at *
    generalize sumsL 0 (lanesV wd k p xs) = SL at *
    go_enter Tryz.func61, Tryz.ntmps61
    go_wp2_with (go_at_call 114; refine HS5.out.mono ?_; rintro e w1 ⟨u, rfl, ho1, hb1⟩; have HO1 := hid ho1; have HB1 := hid hb1; obtain ⟨D, cd, rfl⟩ := owns3_form ho1; clear ho1 hb1)
    go_ret2
    rw [← HR.out]
    exact ⟨_, rfl, ⟨_, _, _, rfl⟩, fun _ => by rw [List.length_map, ← cellsI_P]; exact HO1.out, HB1.out⟩
  rw [if_neg h5] at HR
  have e5 : ((cd : Int) == 5) = false := by simp; omega
  clear HDA HRA HS4 HS5 HNA
  generalize listP kd k p xs = LP at *
  generalize listNx kd k p xs = nx at *
  generalize listOk kd k p xs = lo at *
  have en : ((nx : Int) == (xs.length : Int)) = decide (nx = xs.length) := by by_cases h : nx = xs.length <;> simp [h]; omega
  have e1 : ((cd : Int) == 1) = decide (cd = 1) := by by_cases h : cd = 1 <;> simp [h]; omega
  have ew : ((wd : Int) == 0) = decide (wd = 0) := by by_cases h : wd = 0 <;> simp [h]
  generalize decide (nx = xs.length) = bn at *
  generalize decide (cd = 1) = b1 at *
  generalize decide (wd = 0) = bw at *
  go_enter Tryz.func61, Tryz.ntmps61
  cases lo <;> cases bn <;> cases b1 <;> cases bw
  all_goals
    go_wp2_with (go_at_call 115; refine HLA.out.mono ?_; rintro e w1 ⟨u, rfl, ho1, hb1⟩; have HO1 := hid ho1; have HB1 := hid hb1; obtain ⟨D, cD, rfl⟩ := owns3_form ho1; clear ho1 hb1)
    go_ret2
    rw [← HR.out]
    exact ⟨_, rfl, ⟨_, _, _, rfl⟩, fun _ => HO1.out, HB1.out⟩
end Go.Proofs.YthonbfojpbfmgaaGreatDoor

/- The plain answer's Compare, and the bitmaps that it makes. -/
set_option linter.unusedVariables false
set_option linter.unusedSimpArgs false
set_option linter.unnecessarySimpa false
set_option maxRecDepth 20000
namespace Go.Proofs.YthonbfojpbfmgaaGreatDoor
open Go.RowKit

def standsS (op sign : Int) : Bool :=
  if op = 1 then decide (sign = 0) else if op = 2 then decide (sign ≠ 0) else if op = 3 then decide (sign < 0) else if op = 4 then decide (sign ≤ 0) else if op = 5 then decide (0 < sign) else decide (op = 6) && decide (0 ≤ sign)
set_option maxHeartbeats 400000 in
theorem stands_any (op sign : Int) (w : World) (h : 1 ≤ op ∧ op ≤ 6) : Calls Tryz.prog 63 #[.int .i64 op, .int .i64 sign] w fun e w' => e = .returned (.bool (standsS op sign)) ∧ w' = w := by
  go_enter Tryz.func63, Tryz.ntmps63
  go_wp2
  all_goals go_ret
  all_goals refine ⟨ret_bool ?_, rfl⟩
  all_goals simp only [beq_iff_eq, beq_eq_false_iff_ne, ne_eq] at *
  all_goals (by_cases hs : sign = 0 <;> simp [standsS, *])

def bools (fl : List Bool) : List Value := fl.map Value.bool
theorem bools_get (fl : List Bool) (i : Nat) (h : i < fl.length) : (bools fl)[i]? = some (.bool (fl.getD i false)) := by
  simp [bools, List.getElem?_eq_getElem h, List.getD]

theorem Tryz.infoBool : (Tryz.prog.info? 4).map (fun i => (i.zero, i.size, i.bytes)) = some (some (.bool false), 1, 1) := by kernel_rfl
theorem bmL_snoc (fl : List Bool) (b : Bool) : bmL (fl ++ [b]) = L.packL 1 (fl.map Bool.toNat ++ [b.toNat]) := by simp [bmL]
theorem bmL_zero (fl : List Bool) : upTo 1 (fl.map Bool.toNat) 1 0 = bmL fl := upTo_zero _ _ _

set_option maxHeartbeats 2000000 in
theorem bitmapOf_any (v : Value) (fl : List Bool) (w : World) (hx : Rd w v fl.length 1 (bools fl)) (hl : fl.length ≤ 65536) :
    Calls Tryz.prog 34 #[v] w fun e w' => ∃ r, e = .returned r ∧ w'.ownsRow w.heap.size 40 1 r (bmL fl).length (u64s (bmL fl)) ∧ Below w.heap.size w w' := by
  obtain ⟨A, ca, rfl, hlc, hcm, hA⟩ := hx.form
  clear hx hlc hcm
  go_enter Tryz.func34, Tryz.ntmps34
  go_wp2
  go_loopw [3, 8] (fun v3 i wr => ∃ j : Nat, j ≤ fl.length ∧ i = .int .i64 j ∧ wr.ownsRow w.heap.size 40 1 v3 (bmL (fl.take j)).length (u64s (bmL (fl.take j))) ∧ Below w.heap.size w wr) (fun _ i _ => fl.length - (intOf i).toNat)
  case atStart => exact ⟨0, by omega, rfl, by simpa [bmL, L.packL_nil, u64s] using World.ownsRow_nil _ _ _ _, Below.refl _ _⟩
  case round =>
    obtain ⟨j, hj, rfl, hown, hb⟩ := hrel
    have HOWN := hid hown
    by_cases hlt : j < fl.length
    · obtain ⟨b, o, rfl, hs⟩ := hA (by omega)
      have c1 : wr.cell? ⟨b, o + j, none⟩ = some (.bool (fl.getD j false)) := (hs.mono (hb.mono (Nat.le_refl _))) j _ (bools_get fl j hlt)
      have HTK : Hid (fl.take (j + 1) = fl.take j ++ [fl.getD j false]) := by
        refine hid ?_; rw [List.take_succ_eq_append_getElem hlt]; simp [List.getD, List.getElem?_eq_getElem hlt]
      have hll : ((fl.take j).map Bool.toNat).length = j := by simp; omega
      have hlv := toNat_lt (fl.take j)
      obtain ⟨d, hd⟩ : ∃ d, j / 64 = d := ⟨_, rfl⟩
      obtain ⟨s, hss⟩ : ∃ s, j % 64 = s := ⟨_, rfl⟩
      have hd' : (j : Int) / 64 = (d : Int) := by omega
      have hs' : (j : Int) % 64 = (s : Int) := by omega
      have hs64 : s < 64 := by omega
      have hlen : (bmL (fl.take j)).length = d + if s = 0 then 0 else 1 := by
        rw [bmL_len, L.nWords_cases (by omega) (by omega), List.length_take, Nat.min_eq_left hj]
        simp [hd, hss]
      have HLEN := hid hlen
      -- the words with room for bit j
      have hsh := upTo_short (wd := 1) (by omega) (by omega) ((fl.take j).map Bool.toNat) 1 0
      have hlo := upTo_long (wd := 1) (by omega) (by omega) ((fl.take j).map Bool.toNat) 1 0
      have hbi := (upTo_bit (wd := 1) (by omega) (by omega) ((fl.take j).map Bool.toNat) hlv 1 0).2 (by decide)
      have hfl := L.packL_snoc_length (w := 1) (by omega) (by omega) ((fl.take j).map Bool.toNat) 0
      have hup := upTo_all 1 (by omega) ((fl.take j).map Bool.toNat) 1 (by decide)
      rw [bmL_zero, hll, Nat.pow_zero, Nat.mod_one, show (64 / 1 : Nat) = 64 from rfl, hd] at hsh hlo
      rw [hll, Nat.pow_zero, Nat.mod_one, show (64 / 1 : Nat) = 64 from rfl, hd, hss, Nat.mul_one, Nat.add_zero, show (0 + 1 : Nat) = 1 from rfl, hup] at hbi
      rw [hll, show (64 / 1 : Nat) = 64 from rfl, hd] at hfl
      have ht : bmL (fl.take j ++ [true]) = L.packL 1 ((fl.take j).map Bool.toNat ++ [1]) := bmL_snoc _ _
      have hf : bmL (fl.take j ++ [false]) = L.packL 1 ((fl.take j).map Bool.toNat ++ [0]) := bmL_snoc _ _
      rw [← ht] at hbi
      rw [← hf] at hsh hlo hbi hfl
      have HFV : Hid (∀ x ∈ bmL (fl.take j ++ [false]), x < 18446744073709551616) := (bmL_isBm _).2.1
      have HSH := hid hsh; have HLO := hid hlo; have HBI := hid hbi; have HFL := hid hfl
      clear hsh hlo hbi hfl ht hf hup hll hlv hs hd hss hA hlen
      generalize hF : bmL (fl.take j ++ [false]) = F at *
      have hFe := hid hF
      generalize hE : bmL (fl.take j) = E at *
      have hEe := hid hE
      generalize hfb : fl.getD j false = fb at *
      have HT1 : Hid (fb = true → bmL (fl.take (j + 1)) = F.set d (F.getD d 0 ||| 2 ^ s)) := by
        intro h; rw [HTK.out, h]; exact HBI.out.symm
      have HT0 : Hid (fb = false → bmL (fl.take (j + 1)) = F) := by
        intro h; rw [HTK.out, h]; exact hFe.out
      clear hF hE hfb hown HTK HBI
      have hFd : d < F.length := by have := HFL.out; omega
      have HFY := hid (HFV.out (F.getD d 0) (by simp [List.getD, List.getElem?_eq_getElem hFd]))
      have HOB := hid (or_u64_bit (F.getD d 0) s HFY.out hs64)
      obtain ⟨f0, hf0⟩ : ∃ f0, F.getD d 0 = f0 := ⟨_, rfl⟩
      rw [hf0] at HT1 HOB HFY
      have HF0 := hid hf0
      clear hf0
      by_cases hs0 : s = 0
      · have hsz : ((s : Int) == 0) = true := by simpa using hs0
        have HS0 := hid hs0
        rw [if_pos hs0] at HLEN
        clear hs0
        have hEF : E ++ [0] = F := HSH.out (by have := HLEN.out; omega)
        have HEF := hid hEF
        have HLF : Hid (F.length = E.length + 1) := by refine hid ?_; rw [← hEF]; simp
        clear hEF
        cases fb
        · go_wp2_with (at_builtin; refine wpList_append1 rfl (.tmp 16) (.tmp 17) rfl 40 (.int .u64 0) 8 Tryz.underlying28 Tryz.info45 rfl rfl rfl HOWN.out hb.size (by rfl) (by have := HLEN.out; unfold maxLen; omega) (by have := HLEN.out; omega) ?_; intro v' w' ho hb3 _)
          go_roundw
          case rel =>
            refine ⟨j + 1, by omega, by go_num, ?_, hb.trans hb3⟩
            rw [HT0.out rfl, HLF.out, ← HEF.out, u64s_append]
            exact ho
          case measure => simp [intOf]; omega
        · go_wp2_with (at_builtin; refine wpList_append1 rfl (.tmp 16) (.tmp 17) rfl 40 (.int .u64 0) 8 Tryz.underlying28 Tryz.info45 rfl rfl rfl HOWN.out hb.size (by rfl) (by have := HLEN.out; unfold maxLen; omega) (by have := HLEN.out; omega) ?_; intro v' w' ho hb3 _; (have ho2 : w'.ownsRow w.heap.size 40 1 v' F.length (u64s F) := (by rw [HLF.out, ← HEF.out, u64s_append]; exact ho)); obtain ⟨g, cap, rfl, hBg, hnc, hcm, hcell, hfr, _⟩ := owns_at ho2 d hFd; rw [HF0.out] at hcell; unfold maxLen at hcm; (have HO2 := hid ho2); clear ho ho2)
          go_roundw
          case rel =>
            refine ⟨j + 1, by omega, by go_num, ?_, below_set (hb.trans hb3) _ _ _ hBg⟩
            rw [HT1.out rfl, List.length_set, ← u64s_set, HOB.out]
            exact owns_set HO2.out d _
          case measure => simp [intOf]; omega
      · have hEF : E = F := HLO.out (by have := HLEN.out; rw [if_neg hs0] at this; omega)
        subst hEF
        have hsn : ((s : Int) == 0) = false := by simpa using hs0
        obtain ⟨g, cap, rfl, hBg, hnc, hcm, hcell, hfr, _⟩ := owns_at HOWN.out d hFd
        rw [HF0.out] at hcell
        unfold maxLen at hcm
        cases fb
        · go_wp2
          go_roundw
          case rel => exact ⟨j + 1, by omega, by go_num, by rw [HT0.out rfl]; exact HOWN.out, hb⟩
          case measure => simp [intOf]; omega
        · go_wp2
          go_roundw
          case rel =>
            refine ⟨j + 1, by omega, by go_num, ?_, below_set hb _ _ _ hBg⟩
            rw [HT1.out rfl, List.length_set, ← u64s_set, HOB.out]
            exact owns_set HOWN.out d _
          case measure => simp [intOf]; omega
    · go_wp2
      go_ret
      rw [show j = fl.length from by omega, List.take_length] at hown
      exact ⟨_, rfl, hown, hb⟩
end Go.Proofs.YthonbfojpbfmgaaGreatDoor

/- The plain answer's isBitmap and Indexes. -/
set_option linter.unusedVariables false
set_option linter.unusedSimpArgs false
set_option linter.unnecessarySimpa false
set_option maxRecDepth 20000
namespace Go.Proofs.YthonbfojpbfmgaaGreatDoor
open Go.RowKit

theorem isPack_of_bits {n : Nat} {ws : List Nat} (hl : ws.length = L.nWords 1 n) (hv : ∀ x ∈ ws, x < 18446744073709551616) (h : ∀ i, n ≤ i → i < 64 * ws.length → bitOf ws i = false) : L.IsPack 1 n ws := by
  refine ⟨hl, fun k hk => ?_⟩
  have hx : ws.getD k 0 < 2 ^ 64 := by apply hv; simp [List.getD, List.getElem?_eq_getElem hk]
  have he : L.inWord 1 n k * 1 = min 64 (n - k * 64) := by simp [L.inWord]
  rw [he]
  by_cases h64 : 64 ≤ n - k * 64
  · rw [Nat.min_eq_left h64]; exact hx
  · rw [Nat.min_eq_right (by omega)]
    apply Nat.lt_pow_two_of_testBit
    intro i hi
    by_cases hi64 : i < 64
    · have h1 := h (64 * k + i) (by omega) (by omega)
      unfold bitOf at h1
      rwa [show (64 * k + i) / 64 = k from by omega, show (64 * k + i) % 64 = i from by omega] at h1
    · exact Nat.testBit_lt_two_pow (Nat.lt_of_lt_of_le hx (Nat.pow_le_pow_right (by omega) (by omega)))

theorem okPack1_false_len {m : Nat} {xs : List Nat} (h : xs.length ≠ (m + 63) / 64) : okPack 1 (m : Int) xs = false := by
  by_cases hm : m ≤ 65536
  · cases hc : okPack 1 (m : Int) xs
    · rfl
    · exact absurd (((okPack_nat (wd := 1) (n := m) xs (by decide) hm).1 hc).1.trans (nWords1 m)) h
  · exact okPack_not _ (by omega)
theorem okPack1_false_bit {m k : Nat} {xs : List Nat} (hk : m ≤ k) (h : bitOf xs k = true) : okPack 1 (m : Int) xs = false := by
  by_cases hm : m ≤ 65536
  · cases hc : okPack 1 (m : Int) xs
    · rfl
    · rw [isPack_beyond ((okPack_nat (wd := 1) (n := m) xs (by decide) hm).1 hc) k hk] at h; cases h
  · exact okPack_not _ (by omega)

set_option maxHeartbeats 1000000 in
theorem refIsBitmap_any (v : Value) (xs : List Nat) (n : Int) (w : World) (hx : Rd w v xs.length 1 (u64s xs)) (hv : ∀ x ∈ xs, x < 18446744073709551616) (hl : xs.length ≤ maxLen) :
    Calls Tryz.prog 40 #[v, .int .i64 n] w fun e w' => e = .returned (.bool (okPack 1 n xs)) ∧ w' = w := by
  have HX := hid hx; have HV := hid hv; have HL := hid hl
  unfold maxLen at hl
  obtain ⟨A, ca, rfl, hlc, hcm, hA⟩ := hx.form
  clear hx hv hA hlc hcm
  obtain ⟨ok, hok⟩ : ∃ ok, okPack 1 n xs = ok := ⟨_, rfl⟩
  rw [hok]
  have HOK := hid hok
  clear hok
  go_enter Tryz.func40, Tryz.ntmps40
  by_cases h0 : n < 0
  · go_wp2
    go_ret
    exact ⟨ret_bool (by rw [← HOK.out, okPack_not _ (by omega)]), rfl⟩
  by_cases h1 : 65536 < n
  · go_wp2
    go_ret
    exact ⟨ret_bool (by rw [← HOK.out, okPack_not _ (by omega)]), rfl⟩
  obtain ⟨m, rfl⟩ := Int.eq_ofNat_of_zero_le (show 0 ≤ n by omega)
  obtain ⟨q, hq⟩ : ∃ q, (m + 63) / 64 = q := ⟨_, rfl⟩
  have hq' : ((m : Int) + 63) / 64 = (q : Int) := by omega
  have hm64 : m ≤ 64 * q := by omega
  have hq2 : q ≤ 1024 := by omega
  have HQ := hid hq
  clear hq
  by_cases hlq : xs.length = q
  · have HLQ := hid hlq
    rw [hlq]
    clear hlq
    go_wp2
    go_loop [5] (fun i => ∃ j : Nat, m ≤ j ∧ j ≤ 64 * q ∧ i = .int .i64 j ∧ Hid (∀ k, m ≤ k → k < j → bitOf xs k = false)) (fun i => 64 * q - (intOf i).toNat)
    case atStart => exact ⟨m, by omega, by omega, rfl, hid (by intro k h1 h2; omega)⟩
    case round =>
      obtain ⟨j, hj1, hj2, rfl, HB⟩ := hrel
      by_cases hlt : j < 64 * q
      · have HC := hid (bitAt_any (.slice A q ca) xs j w (by rw [← HLQ.out]; exact HX.out) HV.out HL.out (by omega))
        obtain ⟨bb, hbb⟩ : ∃ bb, bitOf xs j = bb := ⟨_, rfl⟩
        rw [hbb] at HC
        have HBB := hid hbb
        clear hbb
        cases bb
        · go_wp2_with (go_at_call 41; refine HC.out.mono ?_; rintro e w' ⟨rfl, rfl⟩)
          go_round
          case rel =>
            refine ⟨j + 1, by omega, by omega, by go_num, hid ?_⟩
            intro k hk1 hk2
            rcases Nat.lt_succ_iff_lt_or_eq.1 hk2 with h | h
            · exact HB.out k hk1 h
            · rw [h]; exact HBB.out
          case measure => simp [intOf]; omega
        · go_wp2_with (go_at_call 41; refine HC.out.mono ?_; rintro e w' ⟨rfl, rfl⟩)
          go_ret
          exact ⟨ret_bool (by rw [← HOK.out, okPack1_false_bit hj1 HBB.out]), rfl⟩
      · go_wp2
        go_ret
        refine ⟨ret_bool ?_, rfl⟩
        rw [← HOK.out]
        exact Eq.symm ((okPack_nat (wd := 1) (n := m) xs (by decide) (by omega)).2 (isPack_of_bits (by rw [nWords1, HLQ.out, HQ.out]) HV.out (fun i h1 h2 => HB.out i h1 (by rw [HLQ.out] at h2; omega))))
  · have HLQ := hid hlq
    go_wp2
    go_ret
    exact ⟨ret_bool (by rw [← HOK.out, okPack1_false_len (by rw [HQ.out]; exact HLQ.out)]), rfl⟩

/-- the places below n at which a bit is set -/
def idxN (ws : List Nat) (n : Nat) : List Nat := (List.range n).filter (bitOf ws)
def ints (l : List Nat) : List Value := l.map fun n : Nat => Value.int .i64 (n : Int)
theorem idxN_length (ws : List Nat) (n : Nat) : (idxN ws n).length = rankN ws n := rfl
theorem idxN_snoc (ws : List Nat) (n : Nat) : idxN ws (n + 1) = idxN ws n ++ if bitOf ws n then [n] else [] := by
  unfold idxN
  rw [List.range_succ, List.filter_append]
  cases h : bitOf ws n <;> simp [List.filter_cons, h]
theorem idxN_le (ws : List Nat) (n : Nat) : (idxN ws n).length ≤ n := by
  have := List.length_filter_le (bitOf ws) (List.range n)
  rwa [List.length_range] at this
theorem Tryz.infoInt : (Tryz.prog.info? 3).map (fun i => (i.zero, i.size, i.bytes)) = some (some (.int .i64 0), 1, 8) := by kernel_rfl
theorem ints_snoc (l : List Nat) (x : Nat) : ints (l ++ [x]) = ints l ++ [.int .i64 (x : Int)] := by simp [ints]
end Go.Proofs.YthonbfojpbfmgaaGreatDoor

/- The plain answer's Rank; bitvec's setPlaces and Indexes. -/
set_option linter.unusedVariables false
set_option linter.unusedSimpArgs false
set_option linter.unnecessarySimpa false
set_option maxRecDepth 20000
namespace Go.Proofs.YthonbfojpbfmgaaGreatDoor
open Go.RowKit

set_option maxHeartbeats 1000000 in
theorem refRank_any (v : Value) (xs : List Nat) (n i : Int) (w : World) (hx : Rd w v xs.length 1 (u64s xs)) (hv : ∀ x ∈ xs, x < 18446744073709551616) (hl : xs.length ≤ maxLen) :
    Calls Tryz.prog 60 #[v, .int .i64 n, .int .i64 i] w fun e w' => e = .returned (.int .i64 (rankR n i xs)) ∧ w' = w := by
  have H := hid (refIsBitmap_any _ xs n w hx hv hl)
  have HX := hid hx; have HV := hid hv; have HL := hid hl
  clear hx hv hl
  obtain ⟨R, hR⟩ : ∃ R, rankR n i xs = R := ⟨_, rfl⟩
  rw [hR]
  have HR := hid hR
  clear hR
  generalize hok : okPack 1 n xs = ok at *
  have HOK := hid hok
  clear hok
  go_enter Tryz.func60, Tryz.ntmps60
  cases ok
  · go_wp2_with (go_at_call 40; refine H.out.mono ?_; rintro e w' ⟨rfl, rfl⟩)
    go_ret
    exact ⟨ret_i64 (by rw [← HR.out, rankR, if_neg (by rw [HOK.out]; simp)]), rfl⟩
  · by_cases h0 : i < 0
    · go_wp2_with (go_at_call 40; refine H.out.mono ?_; rintro e w' ⟨rfl, rfl⟩)
      go_ret
      exact ⟨ret_i64 (by rw [← HR.out, rankR, if_neg (by omega)]), rfl⟩
    · by_cases h1 : n < i
      · go_wp2_with (go_at_call 40; refine H.out.mono ?_; rintro e w' ⟨rfl, rfl⟩)
        go_ret
        exact ⟨ret_i64 (by rw [← HR.out, rankR, if_neg (by omega)]), rfl⟩
      · obtain ⟨k, rfl⟩ := Int.eq_ofNat_of_zero_le (show 0 ≤ i by omega)
        have hn : n ≤ 65536 := by
          refine Decidable.byContradiction fun hc => ?_
          have := HOK.out
          rw [okPack_not _ (by omega)] at this; cases this
        have HQ : Hid (R = ((rankN xs k : Nat) : Int)) := by
          refine hid ?_; rw [← HR.out, rankR, if_pos ⟨HOK.out, by omega, by omega⟩]; simp
        have hk : k ≤ 65536 := by omega
        go_wp2_with (go_at_call 40; refine H.out.mono ?_; rintro e w' ⟨rfl, hw⟩; replace hw := hw.symm; subst hw)
        go_loop [7, 8] (fun c p => ∃ j : Nat, j ≤ k ∧ p = .int .i64 j ∧ c = .int .i64 (rankN xs j : Nat)) (fun _ p => k - (intOf p).toNat)
        case atStart => exact ⟨0, by omega, rfl, by simp [rankN]⟩
        case round =>
          obtain ⟨j, hj, rfl, rfl⟩ := hrel
          by_cases hlt : j < k
          · have HC := hid (bitAt_any v xs j w HX.out HV.out HL.out (by omega))
            have hle := idxN_le xs j
            rw [idxN_length] at hle
            have HS := hid (rankN_succ xs j)
            generalize bitOf xs j = bb at *
            generalize rankN xs j = a at *
            cases bb
            · go_wp2_with (go_at_call 41; refine HC.out.mono ?_; rintro e w' ⟨rfl, hw⟩; replace hw := hw.symm; subst hw)
              go_round
              case rel => exact ⟨j + 1, by omega, by go_num, by rw [HS.out]; simp⟩
              case measure => simp [intOf]; omega
            · go_wp2_with (go_at_call 41; refine HC.out.mono ?_; rintro e w' ⟨rfl, hw⟩; replace hw := hw.symm; subst hw)
              go_round
              case rel => exact ⟨j + 1, by omega, by go_num, by rw [HS.out]; simp⟩
              case measure => simp [intOf]; omega
          · go_wp2
            go_ret
            exact ⟨ret_i64 (by rw [HQ.out, show j = k from by omega]), rfl⟩

theorem idxN_gap (xs : List Nat) (t : Nat) : ∀ d, (∀ p, t ≤ p → p < t + d → bitOf xs p = false) → idxN xs (t + d) = idxN xs t
  | 0, _ => rfl
  | d + 1, h => by
    rw [← Nat.add_assoc, idxN_snoc, h (t + d) (by omega) (by omega), idxN_gap xs t d (fun p h1 h2 => h p h1 (by omega))]
    simp
theorem ctz_below (x : Nat) (h0 : x ≠ 0) (h : x < 18446744073709551616) (p : Nat) (hp : p < Lib.ctz 64 x) : x.testBit p = false := by
  obtain ⟨m, hm, hk⟩ := ctz_form x h0 h
  generalize Lib.ctz 64 x = t at *
  have hlt : 2 ^ t < 2 ^ (t + 1) := Nat.pow_lt_pow_right (by omega) (by omega)
  rw [hm, Nat.add_comm, Nat.testBit_two_pow_mul_add _ hlt, Nat.testBit_two_pow, if_pos (by omega)]
  simp; omega
/-- the bits of the word k that are still to come -/
def Rest (xs : List Nat) (k t y : Nat) : Prop := t ≤ 64 ∧ y < 18446744073709551616 ∧ ∀ p, p < 64 → y.testBit p = (bitOf xs (64 * k + p) && decide (t ≤ p))
theorem rest_zero {xs : List Nat} {k t : Nat} (h : Rest xs k t 0) : idxN xs (64 * (k + 1)) = idxN xs (64 * k + t) := by
  rw [show 64 * (k + 1) = 64 * k + t + (64 - t) from by have := h.1; omega]
  refine idxN_gap xs _ _ (fun p h1 h2 => ?_)
  have h3 := h.1
  have := h.2.2 (p - 64 * k) (by omega)
  rw [Nat.zero_testBit, show 64 * k + (p - 64 * k) = p from by omega] at this
  simpa [show t ≤ p - 64 * k from by omega] using this.symm
theorem rest_next {xs : List Nat} {k t y : Nat} (h : Rest xs k t y) (h0 : y ≠ 0) : idxN xs (64 * k + (Lib.ctz 64 y + 1)) = idxN xs (64 * k + t) ++ [64 * k + Lib.ctz 64 y] ∧ Rest xs k (Lib.ctz 64 y + 1) (y &&& (y - 1)) ∧ Lib.ctz 64 y < 64 ∧ (y &&& (y - 1)) < y := by
  obtain ⟨ht, hy, hb⟩ := h
  have hk : Lib.ctz 64 y < 64 := (Lib.lowest_bit 64 y h0 hy).2
  have hcl := clear_lowest y h0 hy
  have hbel := ctz_below y h0 hy
  have hset : bitOf xs (64 * k + Lib.ctz 64 y) = true ∧ t ≤ Lib.ctz 64 y := by
    have := hb (Lib.ctz 64 y) hk
    rw [(hcl 0).2.1] at this
    simpa using this.symm
  refine ⟨?_, ⟨by omega, by have := (hcl 0).2.2; omega, fun p hp => ?_⟩, hk, (hcl 0).2.2⟩
  · rw [← Nat.add_assoc, idxN_snoc, hset.1, if_pos rfl]
    congr 1
    have e : 64 * k + Lib.ctz 64 y = 64 * k + t + (Lib.ctz 64 y - t) := by omega
    rw [e]
    refine idxN_gap xs _ _ (fun p h1 h2 => ?_)
    have h3 := hbel (p - 64 * k) (by omega)
    rw [hb _ (by omega), show 64 * k + (p - 64 * k) = p from by omega] at h3
    simpa [show t ≤ p - 64 * k from by omega] using h3
  · rw [(hcl p).1, hb p hp]
    by_cases h1 : p = Lib.ctz 64 y
    · simp [h1]
    · by_cases h2 : p < Lib.ctz 64 y
      · have h3 := hbel p h2
        rw [hb p hp] at h3
        rw [h3]; simp [show ¬ Lib.ctz 64 y + 1 ≤ p from by omega]
      · simp [h1, show t ≤ p from by omega, show Lib.ctz 64 y + 1 ≤ p from by omega]
theorem rest_first (xs : List Nat) (k : Nat) (hv : ∀ x ∈ xs, x < 18446744073709551616) (hk : k < xs.length) : Rest xs k 0 (xs.getD k 0) := by
  refine ⟨by omega, hv _ (by simp [List.getD, List.getElem?_eq_getElem hk]), fun p hp => ?_⟩
  unfold bitOf
  rw [show (64 * k + p) / 64 = k from by omega, show (64 * k + p) % 64 = p from by omega]
  simp
end Go.Proofs.YthonbfojpbfmgaaGreatDoor

/- Package chunk: a value of a chunk, by its codec. -/
set_option linter.unusedVariables false
set_option linter.unusedSimpArgs false
set_option linter.unnecessarySimpa false
set_option maxRecDepth 100000
namespace Go.Proofs.YthonbfojpbfmgaaGreatDoor
open Go.RowKit

/-- a chunk in memory that was looked through, with its lists -/
structure Ck_I (w : World) (g : Nat) (rows : Int) (codec wd : Nat) (nulls : List Nat) (count : Int) (list : List Int) (ends : List Nat) (base : Int) (lanes : List Nat) : Prop where
  ex : ∃ nu lv ev nv bef, Row w g 111 (ck_I rows codec wd nu count lv ev base nv (.iface 68 (.agg #[])) bef) ∧ Rd w nu nulls.length 1 (u64s nulls) ∧ Rd w lv list.length 1 (lstI list) ∧
    Rd w ev ends.length 1 (nIs ends) ∧ Rd w nv lanes.length 1 (u64s lanes) ∧ Rd w bef nulls.length 1 (i64s (befL nulls))
theorem Ck_I.mono {w w' : World} {g : Nat} {rows : Int} {codec wd : Nat} {nulls : List Nat} {count : Int} {list : List Int} {ends : List Nat} {base : Int} {lanes : List Nat} (h : Ck_I w g rows codec wd nulls count list ends base lanes) (hb : Below w.heap.size w w') :
    Ck_I w' g rows codec wd nulls count list ends base lanes := by
  obtain ⟨nu, lv, ev, nv, bef, h1, h2, h3, h4, h5, h6⟩ := h.ex
  exact ⟨nu, lv, ev, nv, bef, h1.mono hb, h2.mono hb, h3.mono hb, h4.mono hb, h5.mono hb, h6.mono hb⟩

/-- value number j -/
def val_I (codec wd : Nat) (list : List Int) (ends : List Nat) (lanes : List Nat) (j : Nat) : Int :=
  if codec = 1 then list.getD j dfI else if codec = 2 then list.getD (L.laneOf wd lanes j) dfI else list.getD (firstGe (nI ends) ((j : Int) + 1)) dfI
/-- where it can be asked -/
def ok_I (codec wd : Nat) (list : List Int) (ends : List Nat) (lanes : List Nat) (j : Nat) : Prop :=
  (codec = 1 ∧ j < list.length) ∨ (codec = 2 ∧ L.laneOf wd lanes j < list.length ∧ wd ≤ 64 ∧ (0 < wd → j / (64 / wd) < lanes.length)) ∨
    (codec = 3 ∧ firstGe (nI ends) ((j : Int) + 1) < list.length ∧ ∀ a b, a < b → b < (nI ends).length → (nI ends).getD a 0 < (nI ends).getD b 0)

end Go.Proofs.YthonbfojpbfmgaaGreatDoor
