/- The plain answer's Bloom. -/
import Derived.Test.YtgobcaianpmbiaaBlr3
set_option linter.unusedVariables false
set_option linter.unusedSimpArgs false
set_option linter.unnecessarySimpa false
set_option maxRecDepth 20000
namespace Go.Proofs.Ytgobcaianpmbiaa
open Go.RowKit

theorem bools_length (fl : List Bool) : (bools fl).length = fl.length := by simp [bools]
theorem bools_set (fl : List Bool) (i : Nat) (b : Bool) : (bools fl).set i (.bool b) = bools (fl.set i b) := by simp [bools, List.map_set]
theorem getD_setT (fl : List Bool) (p j : Nat) (hp : p < fl.length) : (fl.set p true).getD j false = (fl.getD j false || decide (j = p)) := by
  by_cases h : j = p
  · subst h; simp [List.getD, hp]
  · simp [List.getD, List.getElem?_set_ne (Ne.symm h), h]
theorem flags_eq (fl : List Bool) (n : Nat) (f : Nat → Bool) (hl : fl.length = n) (h : ∀ j, j < n → fl.getD j false = f j) : fl = (List.range n).map f := by
  apply List.ext_getElem
  · simp [hl]
  · intro i h1 h2
    have := h i (by omega)
    simp only [List.getD, List.getElem?_eq_getElem h1, Option.getD_some] at this
    simp [this]
theorem bloomOk_no {k : Int} {cs : List C3} {hs ws : Int} (t : Nat) (ht : t < cs.length) (h : ofK k (cs.getD t C3.df) = false) : bloomOk k cs hs ws = false := by
  unfold bloomOk areC; rw [all_no _ cs t ht h]; simp
set_option maxHeartbeats 2000000 in
theorem refBloom_any (v : Value) (cs : List C3) (k hs ws : Int) (w : World) (hx : Rd w v cs.length 3 (cells3 cs)) (hl : cs.length ≤ 17592186044416) :
    Calls Try.prog 7 #[.int .i64 k, v, .int .i64 hs, .int .i64 ws] w fun e w' => ∃ r, e = .returned (.tuple #[r, .bool (bloomOk k cs hs ws)]) ∧ Rd w' r (bloomW k cs hs ws).length 1 (u64s (bloomW k cs hs ws)) ∧ Below w.heap.size w w' := by
  obtain ⟨A, ca, rfl, hlc, hcm, hA⟩ := hx.form
  clear hx
  obtain ⟨n, hn⟩ : ∃ n, cs.length = n := ⟨_, rfl⟩
  have HN := hid hn
  rw [hn] at hlc hA hl ⊢
  have HBN : Hid (∀ t, t < n → ofK k (cs.getD t C3.df) = false → bloomOk k cs hs ws = false) := hid (fun t ht h => bloomOk_no t (by rw [hn]; exact ht) h)
  have HALL : Hid (isKind k = true → n ≤ 65536 → isFil ws hs = true → cs.all (ofK k) = true → bloomOk k cs hs ws = true) := hid (fun h1 h2 h3 h4 => by unfold bloomOk areC; rw [h1, h3, h4, hn]; simp [h2])
  have HSM : Hid (bloomOk k cs hs ws = true → isKind k = true ∧ n ≤ 65536 ∧ 1 ≤ ws ∧ ws ≤ 64 ∧ 1 ≤ hs ∧ hs ≤ 8) := hid (fun h => by
    unfold bloomOk areC isFil at h; rw [hn] at h
    simp only [Bool.and_eq_true, decide_eq_true_eq] at h
    exact ⟨h.1.1.1, h.1.1.2, h.2.1, h.2.2.1, h.2.2.2.1, h.2.2.2.2⟩)
  obtain ⟨R, hR⟩ : ∃ R, bloomOk k cs hs ws = R := ⟨_, rfl⟩
  obtain ⟨W, hW⟩ : ∃ W, bloomW k cs hs ws = W := ⟨_, rfl⟩
  rw [hR, hW]
  rw [hR] at HBN HALL HSM
  have HBAD : Hid (R = false → W = []) := hid (fun h => by rw [← hW, bloomW, if_neg (by rw [hR, h]; simp)])
  have HGOOD : Hid (R = true → W = bmL ((List.range (64 * ws.toNat)).map (marks k cs hs.toNat ws.toNat))) := hid (fun h => by rw [← hW, bloomW, if_pos (by rw [hR, h])])
  clear hW hR hn hcm
  have HK := hid (fun w2 : World => kindOKA k w2)
  have HRET : Hid (∀ w2 : World, R = false → Below w.heap.size w w2 → ∃ r, Ending.returned (.tuple #[.slice none 0 0, .bool false]) = .returned (.tuple #[r, .bool R]) ∧ Rd w2 r W.length 1 (u64s W) ∧ Below w.heap.size w w2) := hid (fun w2 h hb => by
    rw [HBAD.out h, h]; exact ⟨_, rfl, ⟨rfl, .inl ⟨⟨_, rfl⟩, rfl⟩⟩, hb⟩)
  cases hk : isKind k
  · rw [hk] at HK HSM
    have hr0 : R = false := by cases R; rfl; exact absurd (HSM.out rfl).1 (by simp)
    clear hA HBN HALL HSM HGOOD HBAD
    have HR0 := hid hr0; clear hr0
    go_enter Try.func7, Try.ntmps7
    go_wp2_with (go_at_call 25; refine (HK.out _).mono ?_; rintro e w1 ⟨rfl, hw⟩; replace hw := hw.symm; subst hw)
    go_ret2
    exact HRET.out _ HR0.out (Below.refl _ _)
  rw [hk] at HK HSM HALL
  by_cases hin : n ≤ 65536 ∧ 1 ≤ ws ∧ ws ≤ 64 ∧ 1 ≤ hs ∧ hs ≤ 8
  · obtain ⟨h1, h2, h3, h4, h5⟩ := hin
    obtain ⟨m, rfl⟩ := Int.eq_ofNat_of_zero_le (show 0 ≤ ws by omega)
    obtain ⟨q, rfl⟩ := Int.eq_ofNat_of_zero_le (show 0 ≤ hs by omega)
    rw [Int.toNat_natCast, Int.toNat_natCast] at HGOOD
    have hm1 : 1 ≤ m := by omega
    have hm2 : m ≤ 64 := by omega
    have hq1 : 0 < q := by omega
    have hq2 : q ≤ 8 := by omega
    have hko := isKind_or hk
    have HT : Hid (cs.all (ofK k) = true → R = true) := hid (fun h => HALL.out rfl h1 (by unfold isFil; simp; omega) h)
    clear HALL HSM HBAD h2 h3 h4 h5
    obtain ⟨m64, hm64⟩ : ∃ m64, 64 * m = m64 := ⟨_, rfl⟩
    have HM := hid hm64
    have hm64i : (64 : Int) * (m : Int) = (m64 : Int) := by omega
    have hm64b : m64 ≤ 4096 := by omega
    rw [hm64] at HGOOD
    go_enter Try.func7, Try.ntmps7
    have h1' : ¬ (n : Int) > 65536 := by omega
    have h2' : ¬ (q : Int) < 1 := by omega
    have h3' : ¬ (q : Int) > 8 := by omega
    have h4' : ¬ (m : Int) < 1 := by omega
    have h5' : ¬ (m : Int) > 64 := by omega
    go_wp2_with (go_at_call 25; refine (HK.out _).mono ?_; rintro e w1 ⟨rfl, hw⟩; replace hw := hw.symm; subst hw)
    refine upon_make 4 (.bool false) 1 Try.underlying53 Try.infoBool rfl m64 (by omega) (by omega) (by omega) (by unfold maxLen; omega) ?_
    intro w2 hrow hb2 hsz2
    have hrow2 : Row w2 w.heap.size 4 (bools (List.replicate m64 false)) := by
      have e : bools (List.replicate m64 false) = List.replicate m64 (.bool false) := by simp [bools]
      rw [e]; exact hrow
    have HROW := hid hrow2
    have HB2 := hid hb2
    have hs2 : w.heap.size < w2.heap.size := by omega
    clear hrow hrow2 hb2 hsz2
    go_wp2
    go_loopw [44] (fun i wr => ∃ (t : Nat) (fl : List Bool), t ≤ n ∧ i = .int .i64 t ∧ Hid (Row wr w.heap.size 4 (bools fl)) ∧ Hid (fl.length = m64) ∧ Hid (∀ j, fl.getD j false = marks k (cs.take t) q m j) ∧ Hid ((cs.take t).all (ofK k) = true) ∧ Hid (Below w.heap.size w wr) ∧ w.heap.size < wr.heap.size) (fun i _ => n - (intOf i).toNat)
    case atStart => exact ⟨0, List.replicate m64 false, by omega, rfl, HROW, hid (by simp), hid (by intro j; simp [List.getD, List.getElem?_replicate]; split <;> rfl), hid (by simp), HB2, hs2⟩
    case round =>
      obtain ⟨t, fl, ht, rfl, hrow, hfl, hbits, hall, hb, hgs⟩ := hrel
      clear HROW HB2 hs2
      by_cases hlt : t < n
      · have htl : t < cs.length := by rw [HN.out]; exact hlt
        obtain ⟨b, o, rfl, hs'⟩ := hA (by omega)
        obtain ⟨c0, c1, c2⟩ := (hs'.mono (hb.out.mono (Nat.le_refl _))).c3 t htl
        have HMS : Hid (∀ j, marks k (cs.take (t + 1)) q m j = _) := hid (fun j => marks_succ k cs q m t j htl)
        have HAS := hid (all_take_succ (ofK k) cs t htl)
        have HNO := hid (HBN.out t hlt)
        clear hs' hA htl
        generalize cs.getD t C3.df = c at *
        have HO := hid (fun w2 : World => refOfKind_any c k w2)
        have HSZ : Hid (ofK k c = true → c.s.size ≤ maxLen) := hid (fun h => by have := ofK_size h; unfold maxLen; omega)
        have HPL := hid (fun (h : c.s.size ≤ maxLen) (w2 : World) => placesOf_any k c q m w2 hko h hq2 hm1 hm2)
        generalize ofK k c = ok at *
        generalize hashC k c = h at *
        obtain ⟨x, y, z⟩ := c
        unfold C3.v at *
        simp only at c0 c1 c2 HO HSZ HPL HMS
        have hbs := hb.out.size
        cases ok
        · have HR0 := hid (HNO.out rfl)
          go_wp2_with (go_at_call 26; refine (HO.out _).mono ?_; rintro e w3 ⟨rfl, hb3⟩; have HB3 : Hid (Below w.heap.size w w3) := hid (Below.then' (hb.out.alloc hbs _) hb3 (by simp; omega)); clear hb3)
          go_ret2
          exact HRET.out _ HR0.out HB3.out
        have HAS2 : Hid ((cs.take (t + 1)).all (ofK k) = true) := hid (by rw [HAS.out, hall.out]; rfl)
        have HPL2 := hid (HPL.out (HSZ.out rfl))
        clear HAS HNO HSZ HPL
        cases x
        · go_wp2_with (first | (go_at_call 26; refine (HO.out _).mono ?_; rintro e w3 ⟨rfl, hb3⟩; have HB3 : Hid (Below w.heap.size w w3) := hid (Below.then' (hb.out.alloc hbs _) hb3 (by simp; omega)); have HB3r : Hid (Below wr.heap.size wr w3) := hid (Below.trans ((brefl wr).alloc (Nat.le_refl _) _) (hb3.mono (by simp))); obtain ⟨k0, k1, k2⟩ := kept3 hb3 (by simp); clear hb3) | (go_at_call 27; refine (HPL2.out _).mono ?_; rintro e w4 ⟨r, rfl, ho, hb4⟩; have HB4 : Hid (Below w.heap.size w w4) := hid (Below.then' HB3.out hb4 HB3.out.size); have HB4r : Hid (Below wr.heap.size wr w4) := hid (Below.then' HB3r.out hb4 HB3r.out.size); obtain ⟨A2, ca2, rfl, hnc2, hcm2, _, hform⟩ := owns_form ho; obtain ⟨g2, rfl, hg2, _, hc2, _⟩ := hform hq1; have HG2 : Hid (g2 ≠ w.heap.size) := hid (by have := HB3r.out.size; omega); have HC2 := hid hc2; clear ho hb4 hform hc2 hg2))
          have HRW4 := hid (hrow.out.mono HB4r.out)
          have HGS4 := hid (Nat.lt_of_lt_of_le hgs HB4r.out.size)
          go_loopw [60] (fun i wv => ∃ (u : Nat) (fm : List Bool), u ≤ q ∧ i = .int .i64 u ∧ Hid (Row wv w.heap.size 4 (bools fm)) ∧ Hid (fm.length = m64) ∧ Hid (∀ j, fm.getD j false = (fl.getD j false || decide (j ∈ placesN h u m))) ∧ Hid (Below w.heap.size w wv) ∧ Hid (∀ k, k ≠ w.heap.size → wv.heap[k]? = w4.heap[k]?) ∧ Hid (wv.heap.size = w4.heap.size)) (fun i _ => q - (intOf i).toNat)
          case atStart => exact ⟨0, fl, by omega, rfl, HRW4, hfl, hid (by intro j; simp [placesN_zero]), HB4, hid (fun _ _ => rfl), hid rfl⟩
          case round =>
            obtain ⟨u, fm, hu, rfl, hrw, hfm, hbm, hbv, hoth, hszv⟩ := hrel
            by_cases hlu : u < q
            · have hcp : wr.cell? ⟨g2, u, none⟩ = some (.int .i64 (placeN h u m : Nat)) := by
                rw [World.cell?_of_block (w := w4) (hoth.out g2 HG2.out), HC2.out u hlu, i64s_get _ u (by rw [placesI_length]; exact hlu), placesI_get h q m u hlu]
              have hpl := placeN_lt h u m hm1
              rw [HM.out] at hpl
              have HMP : Hid (∀ j, decide (j ∈ placesN h (u + 1) m) = _) := hid (fun j => mem_placesN_succ h u m j)
              generalize placeN h u m = p at *
              have hcell : wr.cell? ⟨w.heap.size, p, none⟩ = some (.bool (fm.getD p false)) := by rw [hrw.out.cell]; exact bools_get fm p (by rw [hfm.out]; exact hpl)
              have hfr := hrw.out.frozen p
              have HST := hid (hrw.out.set p (.bool true))
              have HSG := hid (fun j => getD_setT fm p j (by rw [hfm.out]; exact hpl))
              generalize fm.getD p false = old at *
              go_wp2
              go_roundw
              case rel =>
                refine ⟨u + 1, fm.set p true, by omega, by go_num, hid (by rw [← bools_set]; exact HST.out), hid (by rw [List.length_set]; exact hfm.out), hid (fun j => by rw [HSG.out, hbm.out, HMP.out, Bool.or_assoc]), hid (below_set hbv.out _ _ _ (Nat.le_refl _)), hid (fun b hb => by rw [heap_setCell_other _ _ b _ hb]; exact hoth.out b hb), hid (by rw [← hszv.out]; simp [World.setCell])⟩
              case measure => simp [intOf]; omega
            · obtain rfl : u = q := by omega
              go_wp2
              go_roundw
              case rel =>
                exact ⟨t + 1, fm, by omega, by go_num, hrw, hfm, hid (fun j => by rw [hbm.out, HMS.out, hbits.out]; simp), HAS2, hbv, by rw [hszv.out]; exact HGS4.out⟩
              case measure => simp [intOf]; omega
        · go_wp2_with (go_at_call 26; refine (HO.out _).mono ?_; rintro e w3 ⟨rfl, hb3⟩; have HB3 : Hid (Below w.heap.size w w3) := hid (Below.then' (hb.out.alloc hbs _) hb3 (by simp; omega)); have HB3r : Hid (Below wr.heap.size wr w3) := hid (Below.trans ((brefl wr).alloc (Nat.le_refl _) _) (hb3.mono (by simp))); obtain ⟨k0, k1, k2⟩ := kept3 hb3 (by simp); clear hb3)
          go_roundw
          case rel =>
            exact ⟨t + 1, fl, by omega, by go_num, hid (hrow.out.mono HB3r.out), hfl, hid (fun j => by rw [HMS.out, hbits.out]; simp), HAS2, HB3, Nat.lt_of_lt_of_le hgs HB3r.out.size⟩
          case measure => simp [intOf]; omega
      · obtain rfl : t = n := by omega
        have etk : cs.take t = cs := List.take_of_length_le (by rw [HN.out]; exact Nat.le_refl _)
        have HR1 := hid (HT.out (by rw [← etk]; exact hall.out))
        have HFE : Hid (fl = (List.range m64).map (marks k cs q m)) := hid (flags_eq fl m64 _ hfl.out (fun j _ => by rw [hbits.out, etk]))
        have HRD : Hid (Rd wr (.slice (some ⟨w.heap.size, 0, none⟩) m64 m64) fl.length 1 (bools fl)) := hid (by
          rw [hfl.out]; exact hrow.out.rd' (by rw [bools_length]; exact hfl.out) (by unfold maxLen; omega))
        have HBM := hid (bitmapOf_any _ fl wr HRD.out (by rw [hfl.out]; omega))
        clear etk hrow hbits hfl hall HRD
        go_wp2_with (go_at_call 28; refine HBM.out.mono ?_; rintro e w3 ⟨r, rfl, ho, hb3⟩; have HO3 := hid (owns_rd ho); have HB3 := hid hb3; clear ho hb3)
        go_ret2
        refine ⟨_, by rw [HR1.out]; rfl, ?_, Below.then' hb.out HB3.out hb.out.size⟩
        rw [HGOOD.out HR1.out, ← HFE.out]
        exact HO3.out
  · have hr0 : R = false := by
      cases R
      · rfl
      · exact absurd (HSM.out rfl).2 hin
    have HR0 := hid hr0
    clear hA HBN HALL HSM HGOOD HBAD hr0
    by_cases g1 : n > 65536
    · have g1' : (n : Int) > 65536 := by omega
      go_enter Try.func7, Try.ntmps7
      go_wp2_with (go_at_call 25; refine (HK.out _).mono ?_; rintro e w1 ⟨rfl, hw⟩; replace hw := hw.symm; subst hw)
      go_ret2
      exact HRET.out _ HR0.out (Below.refl _ _)
    have g1' : ¬ (n : Int) > 65536 := by omega
    by_cases g2 : hs < 1
    · go_enter Try.func7, Try.ntmps7
      go_wp2_with (go_at_call 25; refine (HK.out _).mono ?_; rintro e w1 ⟨rfl, hw⟩; replace hw := hw.symm; subst hw)
      go_ret2
      exact HRET.out _ HR0.out (Below.refl _ _)
    by_cases g3 : hs > 8
    · go_enter Try.func7, Try.ntmps7
      go_wp2_with (go_at_call 25; refine (HK.out _).mono ?_; rintro e w1 ⟨rfl, hw⟩; replace hw := hw.symm; subst hw)
      go_ret2
      exact HRET.out _ HR0.out (Below.refl _ _)
    by_cases g4 : ws < 1
    · go_enter Try.func7, Try.ntmps7
      go_wp2_with (go_at_call 25; refine (HK.out _).mono ?_; rintro e w1 ⟨rfl, hw⟩; replace hw := hw.symm; subst hw)
      go_ret2
      exact HRET.out _ HR0.out (Below.refl _ _)
    have g5 : ws > 64 := by omega
    go_enter Try.func7, Try.ntmps7
    go_wp2_with (go_at_call 25; refine (HK.out _).mono ?_; rintro e w1 ⟨rfl, hw⟩; replace hw := hw.symm; subst hw)
    go_ret2
    exact HRET.out _ HR0.out (Below.refl _ _)
end Go.Proofs.Ytgobcaianpmbiaa
