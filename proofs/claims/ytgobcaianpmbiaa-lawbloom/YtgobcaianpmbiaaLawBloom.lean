/- LawBloom's walk. -/
import Derived.Test.YtgobcaianpmbiaaBlr4
import Derived.Test.YtgobcaianpmbiaaLayC
import Derived.Deep.DeepMust
import Derived.Deep.RegionHeld3
set_option linter.unusedVariables false
set_option linter.unusedSimpArgs false
set_option linter.unnecessarySimpa false
set_option maxRecDepth 20000
namespace Go.Proofs.Ytgobcaianpmbiaa
open Go.RowKit

theorem rowW_lay {w : World} {g m : Nat} {xs : List Nat} (h : Row w g 50 (u64s (xs ++ tailW m))) (hl : xs.length + m ≤ maxLen) :
    Rd w (.slice (some ⟨g, 0, none⟩) (xs.length + m) (xs.length + m)) (xs ++ tailW m).length 1 (u64s (xs ++ tailW m)) := by
  have e : (xs ++ tailW m).length = xs.length + m := by simp [tailW]
  rw [e]
  exact h.rd' (by rw [u64s_length, e]) hl
theorem rowW_part {w : World} {g m : Nat} {xs : List Nat} (h : Row w g 50 (u64s (xs ++ tailW m))) (hl : xs.length + m ≤ maxLen) :
    Rd w (.slice (some ⟨g, 0, none⟩) xs.length (xs.length + m)) xs.length 1 (u64s xs) := by
  have := h.rd 0 xs.length (xs.length + m) (by simp [u64s]) (by omega) hl
  rw [List.drop_zero, u64s_append, ← u64s_length xs, List.take_left] at this
  rwa [u64s_length] at this
theorem rowC_lay {w : World} {g m : Nat} {cs : List C3} (h : Row w g 25 (cells3 (cs ++ tailC m))) (hl : cs.length + m ≤ maxLen) :
    Rd w (.slice (some ⟨g, 0, none⟩) (cs.length + m) (cs.length + m)) (cs ++ tailC m).length 3 (cells3 (cs ++ tailC m)) := by
  have e : (cs ++ tailC m).length = cs.length + m := by rw [List.length_append, tailC_length]
  rw [e]
  refine ⟨by rw [cells3_length, e], .inr ⟨g, 0, cs.length + m, rfl, Nat.le_refl _, hl, ?_⟩⟩
  intro i v hv
  rw [Nat.zero_add, h.cell]; exact hv
theorem rowC_part {w : World} {g m : Nat} {cs : List C3} (h : Row w g 25 (cells3 (cs ++ tailC m))) (hl : cs.length + m ≤ maxLen) :
    Rd w (.slice (some ⟨g, 0, none⟩) cs.length (cs.length + m)) cs.length 3 (cells3 cs) := by
  refine ⟨cells3_length cs, .inr ⟨g, 0, cs.length + m, rfl, by omega, hl, ?_⟩⟩
  intro i v hv
  have hi : i < (cells3 cs).length := by
    rcases Nat.lt_or_ge i (cells3 cs).length with h | h
    · exact h
    · rw [List.getElem?_eq_none h] at hv; cases hv
  rw [Nat.zero_add, h.cell, cells3_append, List.getElem?_append_left hi]; exact hv
theorem bmL_lt (fl : List Bool) : ∀ x ∈ bmL fl, x < 18446744073709551616 := (bmL_isBm fl).2.1
theorem bloomW_lt (k : Int) (cs : List C3) (hs ws : Int) : ∀ x ∈ bloomW k cs hs ws, x < 18446744073709551616 := by
  unfold bloomW; split
  · exact bmL_lt _
  · intro x hx; cases hx
theorem bloomW_len (k : Int) (cs : List C3) (hs ws : Int) : (bloomW k cs hs ws).length ≤ 64 ∧ (bloomOk k cs hs ws = true → ((bloomW k cs hs ws).length : Int) = ws) := by
  unfold bloomW; split
  · rename_i h
    have h2 := h
    unfold bloomOk isFil at h
    simp only [Bool.and_eq_true, decide_eq_true_eq] at h
    have e : (bmL ((List.range (64 * ws.toNat)).map (marks k cs hs.toNat ws.toNat))).length = ws.toNat := by
      have := (bmL_isBm ((List.range (64 * ws.toNat)).map (marks k cs hs.toNat ws.toNat))).1
      rw [this, List.length_map, List.length_range, nWords_64]
    rw [e]
    exact ⟨by omega, fun _ => by omega⟩
  · rename_i h; exact ⟨by simp, fun h2 => absurd h2 h⟩
/-- what was put in is found, NULL is not -/
theorem has_put (k : Int) (cs : List C3) (hs ws : Int) (t : Nat) (ht : t < cs.length) (hok : bloomOk k cs hs ws = true) : (hasR (bloomW k cs hs ws) hs k (cs.getD t C3.df) == (cs.getD t C3.df).n) = false := by
  have hlen := (bloomW_len k cs hs ws).2 hok
  have hok2 := hok
  unfold bloomOk at hok2
  simp only [Bool.and_eq_true] at hok2
  have hfil := hok2.2
  have hof : ofK k (cs.getD t C3.df) = true := by
    have h := hok2.1
    unfold areC at h
    simp only [Bool.and_eq_true, List.all_eq_true] at h
    exact h.2 _ (by simp [List.getD, List.getElem?_eq_getElem ht])
  generalize hc : cs.getD t C3.df = c at *
  unfold hasR isVal
  rw [hlen, hfil, hof]
  cases hn : c.n
  · have : hasAll (bloomW k cs hs ws) (hashC k c) hs.toNat = true := by
      unfold hasAll
      simp only [List.all_eq_true]
      intro p hp
      have hl2 : (bloomW k cs hs ws).length = ws.toNat := by omega
      rw [hl2] at hp
      unfold isFil at hfil
      simp only [decide_eq_true_eq] at hfil
      have hplt : p < 64 * ws.toNat := by
        simp only [placesN, List.mem_map] at hp
        obtain ⟨i, _, rfl⟩ := hp
        exact placeN_lt _ _ _ (by omega)
      unfold bloomW
      rw [if_pos hok]
      have hb := (bmL_isBm ((List.range (64 * ws.toNat)).map (marks k cs hs.toNat ws.toNat))).2.2 p (by
        have := (bmL_isBm ((List.range (64 * ws.toNat)).map (marks k cs hs.toNat ws.toNat))).1
        rw [this, List.length_map, List.length_range, nWords_64]; exact hplt)
      rw [hb]
      simp only [List.length_map, List.length_range, hplt, decide_true, Bool.true_and]
      have : ((List.range (64 * ws.toNat)).map (marks k cs hs.toNat ws.toNat)).getD p false = marks k cs hs.toNat ws.toNat p := by
        simp [List.getD, List.getElem?_range hplt]
      rw [this]
      unfold marks
      simp only [List.any_eq_true, Bool.and_eq_true, Bool.not_eq_true', decide_eq_true_eq]
      exact ⟨c, by rw [← hc]; simp [List.getD, List.getElem?_eq_getElem ht], hn, hp⟩
    rw [this]; rfl
  · rfl
set_option maxHeartbeats 4000000 in
theorem lawBloom_walk (va vb : Value) (cs : List C3) (bl : List Nat) (k hs ws r : Int) (c : C3) (w : World) (hx : Rd w va cs.length 3 (cells3 cs)) (hb : Rd w vb bl.length 1 (u64s bl)) (hv : ∀ x ∈ bl, x < 18446744073709551616) (hl : cs.length ≤ 4398046511104) (hl2 : bl.length ≤ 17592186044416) :
    Calls Try.prog 3 #[.int .i64 k, va, .int .i64 hs, .int .i64 ws, vb, c.v, .int .i64 r] w fun e w' => e = .returned (.bool true) ∧ Below w.heap.size w w' := by
  have HX := hid hx; have HY := hid hb; have HV := hid hv
  have hc := clipN_le r
  obtain ⟨m, hm⟩ : ∃ m, clipN r = m := ⟨_, rfl⟩
  rw [hm] at hc
  have HMR := hid hm
  have HBH : Hid (∀ (c : C3) (v : Value) (xs : List Nat) (w2 : World), Rd w2 v xs.length 1 (u64s xs) → (∀ x ∈ xs, x < 18446744073709551616) → xs.length ≤ 17592186044416 + 1024 → Calls Try.prog 10 #[v, .int .i64 hs, .int .i64 k, .agg #[.bool c.n, .int .i64 c.i, .string c.s]] w2 fun e w' => e = .returned (.bool (hasR xs hs k c)) ∧ Below w2.heap.size w2 w') :=
    hid (fun c v xs w2 h1 h2 h3 => BloomHas_any v xs hs k c w2 h1 h2 h3)
  have HRH : Hid (∀ (c : C3) (v : Value) (xs : List Nat) (w2 : World), Rd w2 v xs.length 1 (u64s xs) → (∀ x ∈ xs, x < 18446744073709551616) → xs.length ≤ 17592186044416 → Calls Try.prog 12 #[v, .int .i64 hs, .int .i64 k, .agg #[.bool c.n, .int .i64 c.i, .string c.s]] w2 fun e w' => e = .returned (.bool (hasR xs hs k c)) ∧ Below w2.heap.size w2 w') :=
    hid (fun c v xs w2 h1 h2 h3 => refBloomHas_any v xs hs k c w2 h1 h2 h3)
  obtain ⟨A, ca, rfl, hlc, hcm, hA⟩ := hx.form
  obtain ⟨B, cb, rfl, hlc2, hcm2, _⟩ := hb.form
  clear hx hb hv hm
  obtain ⟨n, hn⟩ : ∃ n, cs.length = n := ⟨_, rfl⟩
  have HN := hid hn
  rw [hn] at hlc hA hl HX ⊢
  clear hn
  obtain ⟨nb, hnb⟩ : ∃ nb, bl.length = nb := ⟨_, rfl⟩
  have HNB := hid hnb
  rw [hnb] at hlc2 hl2 HY ⊢
  clear hnb
  have HM : Hid (n + m ≤ maxLen) := hid (by unfold maxLen; omega)
  have HM2 : Hid (nb + m ≤ maxLen) := hid (by unfold maxLen; omega)
  have HLC : Hid (∀ w2 : World, Below w.heap.size w w2 → Calls Try.prog 5 #[.slice A n ca, .int .i64 r] w2 fun e w' => e = .returned (.slice (some ⟨w2.heap.size, 0, none⟩) (n + m : Nat) (n + m : Nat)) ∧ Row w' w2.heap.size 25 (cells3 (cs ++ tailC m)) ∧ Below w2.heap.size w2 w' ∧ w'.heap.size = w2.heap.size + 1) :=
    hid (fun w2 hb => by have := layCells_any (.slice A n ca) cs r w2 (by rw [HN.out]; exact HX.out.mono hb) (by rw [HN.out]; exact hl); rw [HN.out, HMR.out] at this; exact this)
  have HLW : Hid (∀ w2 : World, Below w.heap.size w w2 → Calls Try.prog 11 #[.slice B nb cb, .int .i64 r] w2 fun e w' => e = .returned (.slice (some ⟨w2.heap.size, 0, none⟩) (nb + m : Nat) (nb + m : Nat)) ∧ Row w' w2.heap.size 50 (u64s (bl ++ tailW m)) ∧ Below w2.heap.size w2 w' ∧ w'.heap.size = w2.heap.size + 1) :=
    hid (fun w2 hb => by have := layWords_any (.slice B nb cb) bl r w2 (by rw [HNB.out]; exact HY.out.mono hb) (by rw [HNB.out]; exact hl2); rw [HNB.out, HMR.out] at this; exact this)
  obtain ⟨x, y, z⟩ := c
  unfold C3.v
  simp only
  go_enter Try.func3, Try.ntmps3
  have HB0 : Hid (Below w.heap.size w (w.alloc (.cells #[.bool x, .int .i64 y, .string z] 25))) := hid ((brefl w).alloc (Nat.le_refl _) _)
  have HR0 : Hid (Row (w.alloc (.cells #[.bool x, .int .i64 y, .string z] 25)) w.heap.size 25 [.bool x, .int .i64 y, .string z]) := hid (by unfold Row; rw [heap_alloc_new])
  have HS0 : Hid (w.heap.size < (w.alloc (.cells #[.bool x, .int .i64 y, .string z] 25)).heap.size) := hid (by simp)
  go_wp2_with fail
  generalize w.alloc (.cells #[.bool x, .int .i64 y, .string z] 25) = w0 at *
  refine (HLC.out _ HB0.out).mono ?_
  rintro e w1 ⟨rfl, hr1, hb1, hz1⟩
  have HB1 : Hid (Below w.heap.size w w1) := hid (Below.then' HB0.out hb1 HB0.out.size)
  have HB01 := hid hb1
  have HR1 := hid hr1
  have HZ1 := hid hz1
  have HP1 : Hid (Rd w1 (.slice (some ⟨w0.heap.size, 0, none⟩) n (n + m)) cs.length 3 (cells3 cs)) := hid (by have := rowC_part hr1 (by rw [HN.out]; exact HM.out); rw [HN.out] at this ⊢; exact this)
  clear hr1 hb1 hz1
  go_wp2_with fail
  refine (Bloom_any _ cs k hs ws _ HP1.out (by rw [HN.out]; omega)).mono ?_
  rintro e w2 ⟨r1, rfl, ho1, hb2⟩
  have HWLT := hid (bloomW_lt k cs hs ws)
  have HWL := hid (bloomW_len k cs hs ws).1
  have HPUT : Hid (∀ t, t < n → bloomOk k cs hs ws = true → (hasR (bloomW k cs hs ws) hs k (cs.getD t C3.df) == (cs.getD t C3.df).n) = false) := hid (fun t ht h => has_put k cs hs ws t (by rw [HN.out]; exact ht) h)
  have HRB : Hid (∀ w3 : World, Below w.heap.size w w3 → _) := hid (fun (w3 : World) (h3 : Below w.heap.size w w3) => refBloom_any (.slice A n ca) cs k hs ws w3 (by rw [HN.out]; exact HX.out.mono h3) (by rw [HN.out]; omega))
  generalize bloomOk k cs hs ws = ok at *
  generalize bloomW k cs hs ws = W at *
  have HO1 := hid ho1
  obtain ⟨A1, c1, rfl, _, _, _⟩ := ho1.form
  have HB2 : Hid (Below w.heap.size w w2) := hid (Below.then' HB1.out hb2 HB1.out.size)
  have HB02 : Hid (Below w0.heap.size w0 w2) := hid (Below.then' HB01.out hb2 HB01.out.size)
  have HR2 : Hid (Row w2 w0.heap.size 25 (cells3 (cs ++ tailC m))) := hid (HR1.out.mono hb2)
  have HZ2 : Hid (w0.heap.size < w2.heap.size) := hid (by have := HZ1.out; have := hb2.size; omega)
  clear ho1 hb2 HR1 HP1 HZ1
  go_wp2_with fail
  refine (HRB.out _ HB2.out).mono ?_
  rintro e w3 ⟨r2, rfl, ho2, hb3⟩
  have HO2 := hid ho2
  have HO1' := hid (HO1.out.mono hb3)
  obtain ⟨A2, c2, rfl, _, _, _⟩ := ho2.form
  have HB3 : Hid (Below w.heap.size w w3) := hid (Below.then' HB2.out hb3 HB2.out.size)
  have HB03 : Hid (Below w0.heap.size w0 w3) := hid (Below.then' HB02.out hb3 HB02.out.size)
  have HR3 : Hid (Row w3 w0.heap.size 25 (cells3 (cs ++ tailC m))) := hid (HR2.out.mono hb3)
  have HZ3 : Hid (w0.heap.size < w3.heap.size) := hid (by have := HZ2.out; have := hb3.size; omega)
  clear ho2 hb3 HR2 HZ2 HO1 HRB
  have hne : (ok != ok) = false := by simp
  have HRC : Hid (∀ (w5 : World) (g : Nat), Row w5 g 25 (cells3 (cs ++ tailC m)) → Rd w5 (.slice (some ⟨g, 0, none⟩) (n + m) (n + m)) (cs ++ tailC m).length 3 (cells3 (cs ++ tailC m))) :=
    hid (fun w5 g h => by have := rowC_lay h (by rw [HN.out]; exact HM.out); rw [HN.out] at this; exact this)
  have HRW : Hid (∀ (w5 : World) (g : Nat), Row w5 g 50 (u64s (bl ++ tailW m)) → Rd w5 (.slice (some ⟨g, 0, none⟩) (nb + m) (nb + m)) (bl ++ tailW m).length 1 (u64s (bl ++ tailW m))) :=
    hid (fun w5 g h => by have := rowW_lay h (by rw [HNB.out]; exact HM2.out); rw [HNB.out] at this; exact this)
  have HLCS : Hid ((cs ++ tailC m).length ≤ 9223372036854775807) := hid (by rw [List.length_append, tailC_length, HN.out]; omega)
  have HLWS : Hid ((bl ++ tailW m).length ≤ maxLen) := hid (by rw [List.length_append, HNB.out]; simp only [tailW, List.length_map, List.length_range]; exact HM2.out)
  go_wp2_with (first
    | (go_at_call 8; refine (sameWords_same _ _ W _ HO1'.out HO2.out (by have := HWL.out; unfold maxLen; omega)).mono ?_; rintro e w4 ⟨rfl, nd, rfl⟩)
    | (go_at_call 5; refine (HLC.out _ (bdrew HB3.out nd)).mono ?_; rintro e w5 ⟨rfl, hr5, hb5, hz5⟩; have HB5 := hid hb5; have HR5 := hid hr5; clear hr5 hb5 hz5)
    | (go_at_call 9; refine (sameCells3 _ _ (cs ++ tailC m) _ (HRC.out _ _ ((show Row (w3.drewN nd) w0.heap.size 25 (cells3 (cs ++ tailC m)) from HR3.out).mono HB5.out)) (HRC.out _ _ HR5.out) HLCS.out).mono ?_; rintro e w6 ⟨rfl, nd6, rfl⟩))
  have HB35 : Hid (Below w3.heap.size w3 (w5.drewN nd6)) := hid (bdrew (Below.then' (bdrew (brefl w3) nd) HB5.out (Nat.le_refl _)) nd6)
  have HB6 : Hid (Below w.heap.size w (w5.drewN nd6)) := hid (Below.then' HB3.out HB35.out HB3.out.size)
  have HB06 : Hid (Below w0.heap.size w0 (w5.drewN nd6)) := hid (Below.then' HB03.out HB35.out HB03.out.size)
  have HO6 := hid (HO1'.out.mono HB35.out)
  clear HR5 HB5 HO2 HO1' HR3 HZ3 HB3 HB03 HRC HLCS HB35 HB01 HB1 HB02 HB2
  generalize w5.drewN nd6 = w6 at *
  go_loopw [20] (fun i wr => ∃ t : Nat, t ≤ n ∧ i = .int .i64 t ∧ Hid (Below w6.heap.size w6 wr)) (fun i _ => n - (intOf i).toNat)
  case atStart => exact ⟨0, by omega, rfl, hid (Below.refl _ _)⟩
  case round =>
    obtain ⟨t, ht, rfl, hb⟩ := hrel
    have HBW : Hid (Below w.heap.size w wr) := hid (Below.then' HB6.out hb.out HB6.out.size)
    have HB0W : Hid (Below w0.heap.size w0 wr) := hid (Below.then' HB06.out hb.out HB06.out.size)
    by_cases hgo : ok = true ∧ t < n
    · obtain ⟨rfl, hlt⟩ := hgo
      have htl : t < cs.length := by rw [HN.out]; exact hlt
      obtain ⟨b, o, rfl, hs'⟩ := hA (by omega)
      obtain ⟨d0, d1, d2⟩ := (hs'.mono (HBW.out.mono (Nat.le_refl _))).c3 t htl
      have hput := HPUT.out t hlt rfl
      clear hs' hA htl
      generalize cs.getD t C3.df = c at *
      have HC := hid (HBH.out c (.slice A1 W.length c1) W wr (HO6.out.mono hb.out) HWLT.out (by have := HWL.out; omega))
      generalize hasR W hs k c = has at *
      obtain ⟨cx, cy, cz⟩ := c
      simp only at d0 d1 d2 HC hput
      have HPU := hid hput
      clear hput
      go_wp2_with (go_at_call 10; refine HC.out.mono ?_; rintro e w7 ⟨rfl, hb7⟩; have HB7 := hid hb7; have hc7 := (World.cell?_of_block (hb7.block b (World.block_lt_of_cell? wr _ d0))).trans d0; have HP7 := HPU.out; clear hb7)
      go_roundw
      case rel => exact ⟨t + 1, by omega, by go_num, hid (Below.then' hb.out HB7.out hb.out.size)⟩
      case measure => simp [intOf]; omega
    · have HR0W := hid (HR0.out.below HB0W.out HS0.out)
      have e0 : wr.cell? ⟨w.heap.size, 0, none⟩ = some (.bool x) := by rw [HR0W.out.cell]; rfl
      have e1 : wr.cell? ⟨w.heap.size, 1, none⟩ = some (.int .i64 y) := by rw [HR0W.out.cell]; rfl
      have e2 : wr.cell? ⟨w.heap.size, 2, none⟩ = some (.string z) := by rw [HR0W.out.cell]; rfl
      have HE := hid (And.intro e0 (And.intro e1 e2))
      clear e0 e1 e2 hA HPUT HO6 HB6 HB06
      have hcase : ok = false ∨ (ok = true ∧ t = n) := by
        cases ok
        · exact .inl rfl
        · exact .inr ⟨rfl, by simp only [true_and] at hgo; omega⟩
      clear hgo
      rcases hcase with rfl | ⟨rfl, rfl⟩
      all_goals go_wp2_with fail
      all_goals
        refine (HLW.out _ HBW.out).mono ?_
        rintro e w8 ⟨rfl, hr8, hb8, hz8⟩
        have HB8 := hid hb8
        have HR8 := hid hr8
        have HBW8 : Hid (Below w.heap.size w w8) := hid (Below.then' HBW.out hb8 HBW.out.size)
        have HP8 : Hid (Rd w8 (.slice (some ⟨wr.heap.size, 0, none⟩) nb (nb + m)) bl.length 1 (u64s bl)) := hid (by have := rowW_part hr8 (by rw [HNB.out]; exact HM2.out); rw [HNB.out] at this ⊢; exact this)
        have HR08 := hid (HR0W.out.mono hb8)
        have e0 : w8.cell? ⟨w.heap.size, 0, none⟩ = some (.bool x) := by rw [HR08.out.cell]; rfl
        have e1 : w8.cell? ⟨w.heap.size, 1, none⟩ = some (.int .i64 y) := by rw [HR08.out.cell]; rfl
        have e2 : w8.cell? ⟨w.heap.size, 2, none⟩ = some (.string z) := by rw [HR08.out.cell]; rfl
        clear hr8 hb8 hz8
        go_wp2_with fail
        have hgw : w.heap.size < w8.heap.size := HR08.out.lt
        have hs3 : (nb : Int) ≤ (nb : Int) + (m : Int) := by omega
        go_region_held3 (fun w' => w'.cell? ⟨w.heap.size, 0, none⟩ = some (.bool x) ∧ w'.cell? ⟨w.heap.size, 1, none⟩ = some (.int .i64 y) ∧ w'.cell? ⟨w.heap.size, 2, none⟩ = some (.string z)) (go_keep)
          (first | (go_at_call 10; refine (HBH.out ⟨x, y, z⟩ _ bl _ (HP8.out.mono (bdrew (brefl w8) _)) HV.out (by rw [HNB.out]; omega)).mono ?_; rintro e w9 ⟨rfl, hb9⟩; have HB9 := hid hb9; have k0 := (hb9.cell (p := ⟨w.heap.size, 0, none⟩) hgw).trans e0; have k1 := (hb9.cell (p := ⟨w.heap.size, 1, none⟩) hgw).trans e1; have k2 := (hb9.cell (p := ⟨w.heap.size, 2, none⟩) hgw).trans e2; clear hb9))
        all_goals
          have HBW9 : Hid (Below w.heap.size w w9) := hid (Below.then' HBW8.out (Below.then' (bdrew (brefl w8) 1) HB9.out (Nat.le_refl _)) HBW8.out.size)
          have HR9 := hid (HR8.out.mono (Below.then' (bdrew (brefl w8) 1) HB9.out (Nat.le_refl _)))
          clear HB9 HB8 HR8 HP8 HR08 hgw e0 e1 e2
          generalize hR : hasR bl hs k { n := x, i := y, s := z } = R at *
          have HRR := hid hR
          clear hR
          have heq : (R == R) = true := by simp
          go_wp2_with (first
            | (go_at_call 12; refine (HRH.out ⟨x, y, z⟩ _ bl _ (by rw [HNB.out]; exact HY.out.mono HBW9.out) HV.out (by rw [HNB.out]; exact hl2)).mono ?_; rintro e w10 ⟨rfl, hb10⟩; rw [HRR.out]; have HB10 := hid hb10; have HBW10 : Hid (Below w.heap.size w w10) := hid (Below.then' HBW9.out hb10 HBW9.out.size); clear hb10)
            | (go_at_call 11; refine (HLW.out _ HBW10.out).mono ?_; rintro e w11 ⟨rfl, hr11, hb11, hz11⟩; have HB11 := hid hb11; have HR11 := hid hr11; have HBW11 : Hid (Below w.heap.size w w11) := hid (Below.then' HBW10.out hb11 HBW10.out.size); clear hr11 hb11 hz11)
            | (go_at_call 8; refine (sameWords_same _ _ (bl ++ tailW m) _ (HRW.out _ _ ((HR9.out.mono HB10.out).mono HB11.out)) (HRW.out _ _ HR11.out) HLWS.out).mono ?_; rintro e w12 ⟨rfl, nd12, rfl⟩))
          trace_state
          go_ret
          exact ⟨rfl, bdrew HBW11.out nd12⟩
end Go.Proofs.Ytgobcaianpmbiaa
