/- Package kernel: filter of one kind (integers). -/
import Derived.Test.YthonbfojpbfmgaaGreatDoorLawfilteruptoB21
import Derived.Test.YthonbfojpbfmgaaGreatDoorLawfilteruptoB20
import Derived.Test.YthonbfojpbfmgaaGreatDoorLawfilteruptoB10
import Derived.Test.YthonbfojpbfmgaaGreatDoorLawfilteruptoB17
import Derived.Test.YthonbfojpbfmgaaGreatDoorLawfilteruptoB16
import Derived.Laws.Cover1
import Derived.Test.YthonbfojpbfmgaaGreatDoorLawfilteruptoB19
import Derived.Test.YthonbfojpbfmgaaGreatDoorLawfilteruptoB4
import Derived.Test.YthonbfojpbfmgaaGreatDoorLawfilteruptoB18
set_option linter.unusedVariables false
set_option linter.unusedSimpArgs false
set_option linter.unnecessarySimpa false
set_option maxRecDepth 100000
namespace Go.Proofs.YthonbfojpbfmgaaGreatDoor
open Go.RowKit

/-- what a row holds that is not NULL -/
def rowV_I (rows : Nat) (xs : List Nat) (r : Nat) : Int := vAt_I rows xs (r - rankN (headOf rows xs).nulls (r + 1))

/-- what a body that is valid has, for a filter -/
structure FilD_I (rows : Nat) (xs : List Nat) : Prop where
  pk : okPack 1 rows (headOf rows xs).nulls = true
  hd : HitD_I (headOf rows xs).codec (headOf rows xs).wd (cntOf rows (headOf rows xs).nulls) (lkOut_I rows xs).list (lkOut_I rows xs).ends (lkBase_I rows xs) (lkOut_I rows xs).lanes
theorem lits_ok_I {op col : Int} {args : List C3} (h : leafOk 1 ⟨op, col, args⟩ = true) (h9 : op ≠ 9) (hal : args.length ≤ 1048576) :
    litsOk op (litsI op (args.map C3.i)).length ∧ (op = 7 → (litsI op (args.map C3.i)).Pairwise (· < ·)) ∧ (litsI op (args.map C3.i)).length ≤ 1048576 := by
  have hd := dictI_le (args.map C3.i)
  rw [List.length_map] at hd
  unfold leafOk takesB at h
  simp only [Bool.and_eq_true] at h
  obtain ⟨⟨h1, _⟩, _⟩ := h
  unfold litsOk litsI
  by_cases h7 : op = 7
  · subst h7
    rw [if_pos rfl]
    exact ⟨⟨by omega, by omega, fun h => absurd h (by omega), fun h => absurd h (by omega)⟩, fun _ => (dictI_spec _).1, by omega⟩
  · rw [if_neg h7, List.length_map]
    rw [if_neg h7] at h1
    by_cases h8 : op = 8
    · rw [if_pos h8] at h1
      simp only [decide_eq_true_eq] at h1
      exact ⟨⟨by omega, by omega, fun h => absurd h (by omega), fun _ => h1⟩, fun h => absurd h h7, hal⟩
    · rw [if_neg h8, if_neg h9] at h1
      simp only [Bool.and_eq_true, decide_eq_true_eq] at h1
      exact ⟨⟨by omega, by omega, fun _ => h1.2, fun h => absurd h h8⟩, fun h => absurd h h7, hal⟩
theorem litsI_mem {op : Int} {xs : List Int} {x : Int} (h : x ∈ litsI op xs) : x ∈ xs := by
  unfold litsI at h
  split at h
  · exact ((dictI_spec xs).2 x).1 h
  · exact h
/-- the rows that are TRUE, and those that are UNKNOWN -/
def filT_I (op : Int) (args : List C3) (rows : Nat) (xs : List Nat) (r : Nat) : Bool := if op = 9 then bitOf (headOf rows xs).nulls r else !bitOf (headOf rows xs).nulls r && leafT op ((args.map C3.i).map pI) (pI (rowV_I rows xs r))

set_option maxHeartbeats 8000000 in
theorem filter_I (w : World) (v av : Value) (xs : List Nat) (rows : Nat) (op col : Int) (args : List C3) (hT : Tab w) (hv : Rd w v xs.length 1 (u8s xs)) (hb : ∀ x ∈ xs, x < 256) (hl : xs.length ≤ 16777216) (hrr : rows ≤ 65536)
    (hx : Rd w av args.length 3 (cells3 args)) (hal : args.length ≤ 1048576) (har : ∀ c ∈ args, okL_I c.i) (hval : lkOk_I rows xs = true → FilD_I rows xs) :
    Calls Tryz.prog 30 #[.iface 68 (.agg #[]), .int .i64 rows, v, .agg #[.int .i64 op, .int .i64 col, av]] w fun e w' =>
      (lkOk_I rows xs = false ∧ FilErr w e w' 1) ∨ (lkOk_I rows xs = true ∧ leafOk 1 ⟨op, col, args⟩ = false ∧ FilErr w e w' 2) ∨
      (lkOk_I rows xs = true ∧ leafOk 1 ⟨op, col, args⟩ = true ∧ FilSays w e w' rows (filT_I op args rows xs) (filU op rows xs)) := by
  have HLK := hid (fun (w2 : World) (h : Below w.heap.size w w2) => Look_I w2 v xs rows (hT.mono h hT.lt) (hv.mono h) hb hl hrr)
  have HLF := hid (fun (w2 : World) (h : Below w.heap.size w w2) => isLeaf_any 1 op col av args w2 (hx.mono h))
  obtain ⟨A0, c0, rfl, _, _, _⟩ := hv.form
  obtain ⟨A1, ca, rfl, _, _, _⟩ := hx.form
  have HX := hid hx
  have HT := hid hT
  have HVAL := hid hval
  have HAR := hid har
  clear hT hv hx hval har
  obtain ⟨n, hn⟩ : ∃ n, args.length = n := ⟨_, rfl⟩
  have HN := hid hn
  simp only [hn] at HX HLF hal ⊢
  have HB0 := hid (((brefl w).alloc (Nat.le_refl _) (.cells #[.int .i64 op, .int .i64 col, .slice A1 n ca] 25)).alloc (by simp) (.cells #[.slice none 0 0, .slice none 0 0] 30))
  have HRN : Hid (Row ((w.alloc (.cells #[.int .i64 op, .int .i64 col, .slice A1 n ca] 25)).alloc (.cells #[.slice none 0 0, .slice none 0 0] 30)) w.heap.size 25 [.int .i64 op, .int .i64 col, .slice A1 n ca]) := hid (by
    have h1 : Row (w.alloc (.cells #[.int .i64 op, .int .i64 col, .slice A1 n ca] 25)) w.heap.size 25 [.int .i64 op, .int .i64 col, .slice A1 n ca] := by unfold Row; rw [heap_alloc_new]
    exact h1.mono ((brefl _).alloc (Nat.le_refl _) _))
  have HRP : Hid (Row ((w.alloc (.cells #[.int .i64 op, .int .i64 col, .slice A1 n ca] 25)).alloc (.cells #[.slice none 0 0, .slice none 0 0] 30)) (w.heap.size + 1) 30 [.slice none 0 0, .slice none 0 0]) := hid (by
    have e : w.heap.size + 1 = (w.alloc (.cells #[.int .i64 op, .int .i64 col, .slice A1 n ca] 25)).heap.size := by simp
    rw [e]; unfold Row; rw [heap_alloc_new])
  have HSZ : Hid (((w.alloc (.cells #[.int .i64 op, .int .i64 col, .slice A1 n ca] 25)).alloc (.cells #[.slice none 0 0, .slice none 0 0] 30)).heap.size = w.heap.size + 2) := hid (by simp)
  have hnum := m_Number_I
  go_enter Tryz.func30, Tryz.ntmps30
  go_upto_region 1 with fail
  generalize (w.alloc (.cells #[.int .i64 op, .int .i64 col, .slice A1 n ca] 25)).alloc (.cells #[.slice none 0 0, .slice none 0 0] 30) = w0 at *
  go_wp2_with fail
  refine (HLK.out w0 HB0.out).mono ?_
  rintro e w1 ⟨hb1, ⟨h0, rfl⟩ | ⟨h0, nu, lv, ev, nv, bef, rfl, h1, h2, h3, h4, h5⟩⟩
  · have H0 := hid h0
    clear h0
    have HB1 := hid hb1
    have HB2 := hid (hb1.alloc hb1.size (.cells zeroCk_I.toArray 111))
    unfold zeroCk_I i64 nilS at HB2 ⊢
    have HRP2 := hid (HRP.out.mono HB2.out)
    clear hnum HLF HX HT HLK
    have z0 := HRP2.out.cell 0
    have z1 := HRP2.out.cell 1
    have f0 := HRP2.out.frozen 0
    have f1 := HRP2.out.frozen 1
    clear hb1
    go_wp2_with fail
    have HBF := hid (below_set (below_set (HB0.out.trans (HB2.out.mono HB0.out.size)) (w.heap.size + 1) 0 (.slice none 0 0) (by omega)) (w.heap.size + 1) 1 (.slice none 0 0) (by omega))
    have HRF := hid ((HRP2.out.set 0 (.slice none 0 0)).set 1 (.slice none 0 0))
    refine bodyPost_ret (v := .tuple #[.agg #[.slice none 0 0, .slice none 0 0], .int .i64 1]) ?_ rfl (.inl ⟨H0.out, rfl, HBF.out⟩)
    have y0 := HRF.out.cell 0
    have y1 := HRF.out.cell 1
    simp at y0 y1
    simp [results, Tryz.results30, go_sem, y0, y1]
  · have H0 := hid h0
    clear h0
    have HB1 := hid hb1
    have hsz1 : w0.heap.size ≤ w1.heap.size := hb1.size
    have HCK := hid (@ck_laid_I w1 rows xs nu lv ev nv bef (owns_rd h1) h2 h3 h4 h5)
    have HNU := hid h1
    obtain ⟨A2, c2, rfl, _, _, _⟩ := (owns_rd h1).form
    obtain ⟨A3, c3, rfl, _, _, _⟩ := h2.form
    obtain ⟨A4, c4, rfl, _, _, _⟩ := h3.form
    obtain ⟨A5, c5, rfl, _, _, _⟩ := h4.form
    obtain ⟨A6, c6, rfl, _, _, _⟩ := h5.form
    have HB2 : Hid (Below w0.heap.size w0 (w1.alloc (.cells (ck_I rows (headOf rows xs).codec (headOf rows xs).wd (.slice A2 (headOf rows xs).nulls.length c2) (cntOf rows (headOf rows xs).nulls) (.slice A3 (lkOut_I rows xs).list.length c3) (.slice A4 (lkOut_I rows xs).ends.length c4) (lkBase_I rows xs) (.slice A5 (lkOut_I rows xs).lanes.length c5) kind_I (.slice A6 (headOf rows xs).nulls.length c6)).toArray 111))) := hid (hb1.alloc hb1.size _)
    have HNU2 := hid (owns_below HNU.out ((brefl w1).alloc (Nat.le_refl _) (.cells (ck_I rows (headOf rows xs).codec (headOf rows xs).wd (.slice A2 (headOf rows xs).nulls.length c2) (cntOf rows (headOf rows xs).nulls) (.slice A3 (lkOut_I rows xs).list.length c3) (.slice A4 (lkOut_I rows xs).ends.length c4) (lkBase_I rows xs) (.slice A5 (lkOut_I rows xs).lanes.length c5) kind_I (.slice A6 (headOf rows xs).nulls.length c6)).toArray 111)))
    have HRC : Hid (Row (w1.alloc (.cells (ck_I rows (headOf rows xs).codec (headOf rows xs).wd (.slice A2 (headOf rows xs).nulls.length c2) (cntOf rows (headOf rows xs).nulls) (.slice A3 (lkOut_I rows xs).list.length c3) (.slice A4 (lkOut_I rows xs).ends.length c4) (lkBase_I rows xs) (.slice A5 (lkOut_I rows xs).lanes.length c5) kind_I (.slice A6 (headOf rows xs).nulls.length c6)).toArray 111)) w1.heap.size 111 (ck_I rows (headOf rows xs).codec (headOf rows xs).wd (.slice A2 (headOf rows xs).nulls.length c2) (cntOf rows (headOf rows xs).nulls) (.slice A3 (lkOut_I rows xs).list.length c3) (.slice A4 (lkOut_I rows xs).ends.length c4) (lkBase_I rows xs) (.slice A5 (lkOut_I rows xs).lanes.length c5) kind_I (.slice A6 (headOf rows xs).nulls.length c6))) := hid (by unfold Row; rw [heap_alloc_new])
    have HPK := hid ((HVAL.out H0.out).pk)
    have HHD := hid ((HVAL.out H0.out).hd)
    clear h1 h2 h3 h4 h5 hb1 HLK HNU HVAL
    have HKK : Hid (cntOf rows (headOf rows xs).nulls ≤ rows ∧ cntOf rows (headOf rows xs).nulls + rankN (headOf rows xs).nulls rows = rows) := hid (by have := rankN_le (headOf rows xs).nulls rows; unfold cntOf; omega)
    generalize cntOf rows (headOf rows xs).nulls = kk at *
    generalize hH : headOf rows xs = H at *
    generalize hO : lkOut_I rows xs = O at *
    generalize hbs : lkBase_I rows xs = bs at *
    have HH := hid hH
    have HO := hid hO
    have HBSE := hid hbs
    clear hH hO hbs
    have HRCk := HRC
    unfold ck_I i64 kind_I at HB2 HNU2 HRC HCK ⊢
    go_upto_region 4 with fail
    generalize w1.alloc (.cells #[.int .i64 rows, .int .i64 H.codec, .int .i64 H.wd, .slice A2 H.nulls.length c2, .int .i64 kk, .slice A3 O.list.length c3, .slice A4 O.ends.length c4, .int .i64 bs, .slice A5 O.lanes.length c5, .iface 68 (.agg #[]), .slice A6 H.nulls.length c6] 111) = w2 at *
    have HW2 := hid (HB0.out.trans (HB2.out.mono HB0.out.size))
    have HRN2 := hid (HRN.out.mono HB2.out)
    obtain ⟨k0, k1, k2⟩ := cell3 HRN2.out
    have hgl : w.heap.size < w2.heap.size := HRN2.out.lt
    obtain ⟨ok, hok⟩ : ∃ ok, leafOk 1 ⟨op, col, args⟩ = ok := ⟨_, rfl⟩
    have HOK := hid hok
    rw [hok] at HLF
    clear hok
    cases ok
    · go_region_held3 (fun w' => w'.cell? ⟨w.heap.size, 0, none⟩ = some (.int .i64 op) ∧ w'.cell? ⟨w.heap.size, 1, none⟩ = some (.int .i64 col) ∧ w'.cell? ⟨w.heap.size, 2, none⟩ = some (.slice A1 n ca)) (go_keep)
        (first
          | (go_at_call 272; refine (IntsNumber_any _).mono ?_; rintro e w3 ⟨rfl, hb3⟩; have HB3 := hid ((bdrew (brefl w2) 1).trans hb3); have m0 := (HB3.out.cell (p := ⟨w.heap.size, 0, none⟩) hgl).trans k0; have m1 := (HB3.out.cell (p := ⟨w.heap.size, 1, none⟩) hgl).trans k1; have m2 := (HB3.out.cell (p := ⟨w.heap.size, 2, none⟩) hgl).trans k2; have hgl3 : w.heap.size < w3.heap.size := Nat.lt_of_lt_of_le hgl HB3.out.size; clear hb3)
          | (go_at_call 50; refine (HLF.out _ (bthen HW2.out HB3.out)).mono ?_; rintro e w4 ⟨rfl, hb4⟩; have HB4 := hid hb4; have q0 := (hb4.cell (p := ⟨w.heap.size, 0, none⟩) hgl3).trans m0; have q1 := (hb4.cell (p := ⟨w.heap.size, 1, none⟩) hgl3).trans m1; have q2 := (hb4.cell (p := ⟨w.heap.size, 2, none⟩) hgl3).trans m2; clear hb4))
      have HB5 := hid (bthen (bthen HB2.out HB3.out) HB4.out)
      have HRP5 := hid (HRP.out.mono HB5.out)
      have z0 := HRP5.out.cell 0
      have z1 := HRP5.out.cell 1
      have f0 := HRP5.out.frozen 0
      have f1 := HRP5.out.frozen 1
      clear q0 q1 q2 m0 m1 m2 k0 k1 k2 HLF HRN2 HRC HRCk HNU2 hgl3 hgl
      go_wp2_with fail
      have HBF := hid (below_set (below_set (HB0.out.trans (HB5.out.mono HB0.out.size)) (w.heap.size + 1) 0 (.slice none 0 0) (by omega)) (w.heap.size + 1) 1 (.slice none 0 0) (by omega))
      have HRF := hid ((HRP5.out.set 0 (.slice none 0 0)).set 1 (.slice none 0 0))
      refine bodyPost_ret (v := .tuple #[.agg #[.slice none 0 0, .slice none 0 0], .int .i64 2]) ?_ rfl (.inr (.inl ⟨H0.out, HOK.out, rfl, HBF.out⟩))
      have y0 := HRF.out.cell 0
      have y1 := HRF.out.cell 1
      simp at y0 y1
      simp [results, Tryz.results30, go_sem, y0, y1]
    · go_region_held3 (fun w' => w'.cell? ⟨w.heap.size, 0, none⟩ = some (.int .i64 op) ∧ w'.cell? ⟨w.heap.size, 1, none⟩ = some (.int .i64 col) ∧ w'.cell? ⟨w.heap.size, 2, none⟩ = some (.slice A1 n ca)) (go_keep)
        (first
          | (go_at_call 272; refine (IntsNumber_any _).mono ?_; rintro e w3 ⟨rfl, hb3⟩; have HB3 := hid ((bdrew (brefl w2) 1).trans hb3); have m0 := (HB3.out.cell (p := ⟨w.heap.size, 0, none⟩) hgl).trans k0; have m1 := (HB3.out.cell (p := ⟨w.heap.size, 1, none⟩) hgl).trans k1; have m2 := (HB3.out.cell (p := ⟨w.heap.size, 2, none⟩) hgl).trans k2; have hgl3 : w.heap.size < w3.heap.size := Nat.lt_of_lt_of_le hgl HB3.out.size; clear hb3)
          | (go_at_call 50; refine (HLF.out _ (bthen HW2.out HB3.out)).mono ?_; rintro e w4 ⟨rfl, hb4⟩; have HB4 := hid hb4; have q0 := (hb4.cell (p := ⟨w.heap.size, 0, none⟩) hgl3).trans m0; have q1 := (hb4.cell (p := ⟨w.heap.size, 1, none⟩) hgl3).trans m1; have q2 := (hb4.cell (p := ⟨w.heap.size, 2, none⟩) hgl3).trans m2; clear hb4))
      have HB5 := hid (bthen (bthen HB2.out HB3.out) HB4.out)
      have HRP5 := hid (HRP.out.mono HB5.out)
      by_cases h9 : op = 9
      · subst h9
        have HB45 := hid (bthen HB3.out HB4.out)
        have HRC5 := hid (HRC.out.mono HB45.out)
        have HNU5 := hid (owns_below HNU2.out HB45.out)
        have z0 := HRP5.out.cell 0
        have z1 := HRP5.out.cell 1
        have f0 := HRP5.out.frozen 0
        have f1 := HRP5.out.frozen 1
        have x3 : w4.cell? ⟨w1.heap.size, 3, none⟩ = some (.slice A2 H.nulls.length c2) := by rw [HRC5.out.cell]; rfl
        have hpg : w1.heap.size ≠ w.heap.size + 1 := by have := hsz1; have := HSZ.out; omega
        have hg4 : w1.heap.size < w4.heap.size := HRC5.out.lt
        clear m0 m1 m2 k0 k1 k2 HLF HRN2 HRC HRCk HNU2 hgl3 hgl
        go_upto_region 7 with fail
        clear q0 q1 q2
        have HNB := hid (fun w2 => newBitmap_any rows w2 (by omega))
        go_region_held3 (fun w' => w'.cell? ⟨w1.heap.size, 3, none⟩ = some (.slice A2 H.nulls.length c2)) (first | go_keep | (rw [cell_setP _ _ _ _ _ _ hpg]; assumption))
          (first
            | (go_at_call 51; refine (HNB.out _).mono ?_; rintro e w6 ⟨rfl, hr6, hb6, hs6⟩; have HB6 := hid ((bdrew (brefl w4) 1).trans hb6); have HR6 := hid hr6; have HS6 := hid hs6; have x36 := (HB6.out.cell (p := ⟨w1.heap.size, 3, none⟩) hg4).trans x3; have HRP6 := hid (HRP5.out.mono HB6.out); have z60 := HRP6.out.cell 0; have z61 := HRP6.out.cell 1; have f60 := HRP6.out.frozen 0; have f61 := HRP6.out.frozen 1; clear hr6 hb6 hs6))
        have HNU6 := hid (owns_below HNU5.out HB6.out)
        have HB5' := hid (HB0.out.trans (HB5.out.mono HB0.out.size))
        have HB6' := hid (HB5'.out.trans (HB6.out.mono HB5'.out.size))
        have hs4 : w.heap.size + 1 < w4.heap.size := HRP5.out.lt
        clear x3 x36 z0 z1 f0 f1
        go_wp2_with fail
        clear z60 z61 f60 f61
        have HCF := hid (((Chg.refl (w.heap.size + 1) (w.heap.size + 1) w6).setCell (w.heap.size + 1) 0 (.slice A2 H.nulls.length c2) (.inl rfl)).setCell (w.heap.size + 1) 1 (.slice (some ⟨w4.heap.size, 0, none⟩) ((rows + 63) / 64) ((rows + 63) / 64)) (.inl rfl))
        have HBF := hid (below_set (below_set HB6'.out (w.heap.size + 1) 0 (.slice A2 H.nulls.length c2) (by omega)) (w.heap.size + 1) 1 (.slice (some ⟨w4.heap.size, 0, none⟩) ((rows + 63) / 64) ((rows + 63) / 64)) (by omega))
        have HRF := hid ((HRP6.out.set 0 (.slice A2 H.nulls.length c2)).set 1 (.slice (some ⟨w4.heap.size, 0, none⟩) ((rows + 63) / 64) ((rows + 63) / 64)))
        have hBT := pack_bits hrr HPK.out
        have hzz : BitsOf rows (fun _ => false) (List.replicate ((rows + 63) / 64) 0) := by
          have hh := BitsTo.start rows (fun _ => false)
          exact ⟨hh.1, hh.2.1, fun i => by rw [hh.2.2]; simp⟩
        have hOU : w6.ownsRow w4.heap.size 40 1 (.slice (some ⟨w4.heap.size, 0, none⟩) ((rows + 63) / 64) ((rows + 63) / 64)) ((rows + 63) / 64) (u64s (List.replicate ((rows + 63) / 64) 0)) := HR6.out.owns (Nat.le_refl _) (by simp [u64s]) (by unfold maxLen; omega)
        have hz0 := HSZ.out
        have hOT : w6.ownsRow w0.heap.size 40 1 (.slice A2 H.nulls.length c2) ((rows + 63) / 64) (u64s H.nulls) := by
          rw [← hBT.1]; exact HNU6.out
        have hT2 := owns_low (B' := w.heap.size) (owns_chg hOT HCF.out (by omega) (by omega)) (by omega)
        have hU2 := owns_low (B' := w.heap.size) (owns_chg hOU HCF.out (by omega) (by omega)) (by omega)
        refine bodyPost_ret (v := .tuple #[.agg #[.slice A2 H.nulls.length c2, .slice (some ⟨w4.heap.size, 0, none⟩) ((rows + 63) / 64) ((rows + 63) / 64)], .int .i64 0]) ?_ rfl (.inr (.inr ⟨H0.out, HOK.out, _, _, H.nulls, _, rfl, ?_, ?_, hT2, hU2, ?_, HBF.out⟩))
        · have y0 := HRF.out.cell 0
          have y1 := HRF.out.cell 1
          simp at y0 y1
          simp [results, Tryz.results30, go_sem, y0, y1]
        · refine ⟨hBT.1, hBT.2.1, fun i => ?_⟩
          rw [hBT.2.2]; unfold filT_I; rw [if_pos rfl, HH.out]
        · refine ⟨hzz.1, hzz.2.1, fun i => ?_⟩
          rw [hzz.2.2]; unfold filU; rw [if_pos rfl]
        · intro k hk1 hk2
          have := (HNU5.out.lt k hk1).2
          injection hk2 with hk2
          have hk3 : w4.heap.size = k := hk2
          omega
      · have h9b : (op == 9) = false := beq_eq_false_iff_ne.2 h9
        have HB45 := hid (bthen HB3.out HB4.out)
        have HRC5 := hid (HRC.out.mono HB45.out)
        have HNU5 := hid (owns_below HNU2.out HB45.out)
        have HCK4 := hid (HCK.out.mono HB45.out)
        have HB5' := hid (HB0.out.trans (HB5.out.mono HB0.out.size))
        have hBT := pack_bits hrr HPK.out
        have HBT := hid hBT
        have HT4 := hid (HT.out.mono HB5'.out HT.out.lt)
        have HPS := hid (null_bits hrr HPK.out)
        have HX4 := hid (HX.out.mono HB5'.out)
        have HCMP := hid (Compare_any (.slice A2 H.nulls.length c2) H.nulls 1 rows 1 0 w4 HT4.out (owns_rd HNU5.out) hBT.2.1 (by omega) (by rw [hBT.1]; unfold maxLen; omega))
        have HTO := hid (fun (w5 : World) (h : Below w4.heap.size w4 w5) => testOfI_any op col (.slice A1 n ca) args w5 (by rw [HN.out]; exact HX4.out.mono h) (by rw [HN.out]; exact hal))
        have HLT := hid (lits_ok_I HOK.out h9 (by rw [HN.out]; exact hal))
        have HHO := hid (fun (w6 : World) (lv : Value) (h : Below w4.heap.size w4 w6) (hr : Rd w6 lv (litsI op (args.map C3.i)).length 1 (i64s (litsI op (args.map C3.i)))) =>
          hitsOf_I w6 w1.heap.size rows H.codec H.wd H.nulls kk O.list O.ends bs O.lanes op (litsI op (args.map C3.i)) lv (HCK4.out.mono h) (HT4.out.mono h HT4.out.lt) HHD.out ⟨hr, HLT.out.1, HLT.out.2.1, HLT.out.2.2⟩
            (fun x hx => by obtain ⟨c, hc, rfl⟩ := List.mem_map.1 (litsI_mem hx); exact HAR.out c hc))
        have HEX := hid (fun (w7 : World) (u v : Value) (zs : List Nat) (h : Below w4.heap.size w4 w7) (h1 : Rd w7 u (cmpR 1 rows 1 H.nulls 0).length 1 (u64s (cmpR 1 rows 1 H.nulls 0))) (h2 : Rd w7 v zs.length 1 (u64s zs)) (h3 : ∀ x ∈ zs, x < 18446744073709551616) (h4 : zs.length ≤ 1048576) =>
          Expand_any u v (cmpR 1 rows 1 H.nulls 0) zs rows w7 (HT4.out.mono h HT4.out.lt) h1 h2 HPS.out.2.1 h3 (by rw [HPS.out.1]; unfold maxLen; omega) (by unfold maxLen; omega))
        have x3 : w4.cell? ⟨w1.heap.size, 3, none⟩ = some (.slice A2 H.nulls.length c2) := by rw [HRC5.out.cell]; rfl
        have hg4 : w1.heap.size < w4.heap.size := HRC5.out.lt
        have hn4 : w.heap.size < w4.heap.size := by have := HRP5.out.lt; omega
        clear m0 m1 m2 k0 k1 k2 HLF HRN2 HRC HRCk HNU2 hgl3 hgl hBT hnum
        generalize cmpOk 1 rows 1 H.nulls = cok at *
        generalize cmpR 1 rows 1 H.nulls 0 = PS at *
        generalize hLS : litsI op (args.map C3.i) = LS at *
        have HLSE := hid hLS
        clear hLS
        go_upto_region 8 with fail
        go_upto_region 9 with (go_at_call 52; refine HCMP.out.mono ?_; rintro e w5 ⟨r1, rfl, h1, h2⟩; have HP1 := hid h1; have HB6 := hid h2; have t0 := (h2.cell (p := ⟨w.heap.size, 0, none⟩) hn4).trans q0; have t1 := (h2.cell (p := ⟨w.heap.size, 1, none⟩) hn4).trans q1; have t2 := (h2.cell (p := ⟨w.heap.size, 2, none⟩) hn4).trans q2; clear h1 h2)
        clear q0 q1 q2 x3 HCMP
        go_upto_region 10 with (first
          | (go_at_call 58; refine (HTO.out w5 HB6.out).mono ?_; rintro e w6 ⟨lv, rfl, h1, h2⟩; have HL1 := hid h1; have HB7 := hid (bthen HB6.out h2); have HB67 := hid h2; clear h1 h2)
          | (go_at_call 57; refine (HHO.out w6 lv HB7.out (owns_rd HL1.out)).mono ?_; rintro e w7 ⟨r2, zs, rfl, h1, h2, h3⟩; have HZ1 := hid h1; have HZ2 := hid h2; have HB8 := hid (bthen HB7.out h3); have HB78 := hid h3; clear h1 h2 h3; have HEXx := hid (HEX.out w7 r1 r2 zs HB8.out (owns_rd (owns_below (owns_below HP1.out HB67.out) HB78.out)) (by rw [HZ1.out.1]; exact HZ2.out) HZ1.out.2.1 (by rw [HZ1.out.1]; have := HKK.out; omega)))
          | (go_at_call 53; refine HEXx.out.mono ?_; rintro e w8 ⟨r3, rfl, h1, h2⟩; have HE1 := hid h1; have HB9 := hid (bthen HB8.out h2); have HB89 := hid h2; clear h1 h2))
        have HEB := hid (exp_bits hrr HKK.out.2 HPS.out HZ1.out)
        obtain ⟨A7, c7, rfl, _⟩ := owns_form HE1.out
        have HRC8 := hid (HRC5.out.mono HB9.out)
        have HRP8 := hid (HRP5.out.mono HB9.out)
        have HNU8 := hid (owns_below HNU5.out HB9.out)
        have x3 : w8.cell? ⟨w1.heap.size, 3, none⟩ = some (.slice A2 H.nulls.length c2) := by rw [HRC8.out.cell]; rfl
        have z0 := HRP8.out.cell 0
        have z1 := HRP8.out.cell 1
        have f0 := HRP8.out.frozen 0
        have f1 := HRP8.out.frozen 1
        have HBW := hid (HB5'.out.trans (HB9.out.mono HB5'.out.size))
        have hs4 : w.heap.size + 1 < w4.heap.size := HRP5.out.lt
        have hs47 : w4.heap.size ≤ w7.heap.size := HB8.out.size
        have hz0 := HSZ.out
        obtain ⟨R, hR⟩ : ∃ R, expR rows PS zs = R := ⟨_, rfl⟩
        simp only [hR] at HE1 HEB ⊢
        obtain ⟨m, hm⟩ : ∃ m, R.length = m := ⟨_, rfl⟩
        simp only [hm] at HE1 ⊢
        have HM := hid hm
        clear hR hm t0 t1 t2
        go_wp2_with fail
        clear z0 z1 f0 f1 x3
        have HCF := hid (((Chg.refl (w.heap.size + 1) (w.heap.size + 1) w8).setCell (w.heap.size + 1) 0 (.slice A7 m c7) (.inl rfl)).setCell (w.heap.size + 1) 1 (.slice A2 H.nulls.length c2) (.inl rfl))
        have HBF := hid (below_set (below_set HBW.out (w.heap.size + 1) 0 (.slice A7 m c7) (by omega)) (w.heap.size + 1) 1 (.slice A2 H.nulls.length c2) (by omega))
        have HRF := hid ((HRP8.out.set 0 (.slice A7 m c7)).set 1 (.slice A2 H.nulls.length c2))
        have hm2 : m = (rows + 63) / 64 := by rw [← HM.out]; exact HEB.out.1
        have hOT : w8.ownsRow w7.heap.size 40 1 (.slice A7 m c7) ((rows + 63) / 64) (u64s R) := by rw [← hm2]; exact HE1.out
        have hOU : w8.ownsRow w0.heap.size 40 1 (.slice A2 H.nulls.length c2) ((rows + 63) / 64) (u64s H.nulls) := by
          rw [← HBT.out.1]; exact HNU8.out
        have hT2 := owns_low (B' := w.heap.size) (owns_chg hOT HCF.out (by omega) (by omega)) (by omega)
        have hU2 := owns_low (B' := w.heap.size) (owns_chg hOU HCF.out (by omega) (by omega)) (by omega)
        refine bodyPost_ret (v := .tuple #[.agg #[.slice A7 m c7, .slice A2 H.nulls.length c2], .int .i64 0]) ?_ rfl (.inr (.inr ⟨H0.out, HOK.out, _, _, R, H.nulls, rfl, ?_, ?_, hT2, hU2, ?_, HBF.out⟩))
        · have y0 := HRF.out.cell 0
          have y1 := HRF.out.cell 1
          simp at y0 y1
          simp [results, Tryz.results30, go_sem, y0, y1]
        · refine ⟨HEB.out.1, HEB.out.2.1, fun i => ?_⟩
          rw [HEB.out.2.2]; unfold filT_I rowV_I vAt_I; rw [if_neg h9, HH.out, HO.out, HBSE.out, ← HLSE.out]; simp only [leafT_litsI]
        · refine ⟨HBT.out.1, HBT.out.2.1, fun i => ?_⟩
          rw [HBT.out.2.2]; unfold filU; rw [if_neg h9, HH.out]
        · intro k hk1 hk2
          have h1 := (HNU5.out.lt k hk2).2
          have h2 := (HE1.out.lt k hk1).1
          omega
end Go.Proofs.YthonbfojpbfmgaaGreatDoor

/- slices.BinarySearch over strings. -/
set_option linter.unusedVariables false
set_option linter.unusedSimpArgs false
set_option linter.unnecessarySimpa false
set_option maxRecDepth 20000
namespace Go.Proofs.YthonbfojpbfmgaaGreatDoor
open Go.RowKit

theorem eqS_self (x : ByteArray) : (x.toList == x.toList) = true := by simp
theorem isNaNcS_any (x : ByteArray) (w : World) : Calls Tryz.prog 234 #[.string x] w fun e w' => e = .returned (.bool false) ∧ w' = w := by
  have e1 := eqS_self x
  go_enter Tryz.func234, Tryz.ntmps234
  go_wp2
  go_ret
  exact ⟨rfl, rfl⟩
theorem isNaNsS_any (x : ByteArray) (w : World) : Calls Tryz.prog 228 #[.string x] w fun e w' => e = .returned (.bool false) ∧ w' = w := by
  have e1 := eqS_self x
  go_enter Tryz.func228, Tryz.ntmps228
  go_wp2
  go_ret
  exact ⟨rfl, rfl⟩
theorem LessS_any (x y : ByteArray) (w : World) : Calls Tryz.prog 199 #[.string x, .string y] w fun e w' => e = .returned (.bool (ltS x y)) ∧ w' = w := by
  obtain ⟨b, hb⟩ : ∃ b, ltS x y = b := ⟨_, rfl⟩
  rw [hb]
  have hb2 : Op.bytesLess x.toList y.toList = b := hb
  clear hb
  go_enter Tryz.func199, Tryz.ntmps199
  cases b
  all_goals go_wp2_with (go_at_call 234; refine (isNaNcS_any _ _).mono ?_; rintro e w' ⟨rfl, rfl⟩)
  all_goals go_ret
  all_goals exact ⟨rfl, rfl⟩

/-- the first place whose entry is not below t -/
def firstGeS (es : List ByteArray) (t : ByteArray) : Nat := es.findIdx fun e => !ltS e t
theorem firstGeS_eq (es : List ByteArray) (t : ByteArray) (i : Nat) (hi : i ≤ es.length) (h1 : ∀ a, a < i → ltS (es.getD a ByteArray.empty) t = true) (h2 : i < es.length → ltS (es.getD i ByteArray.empty) t = false) : firstGeS es t = i := by
  unfold firstGeS
  by_cases hlt : i < es.length
  · rw [List.findIdx_eq hlt]
    refine ⟨?_, fun j hj => ?_⟩
    · have := h2 hlt
      simpa [List.getD, List.getElem?_eq_getElem hlt] using this
    · have := h1 j hj
      have hjl : j < es.length := by omega
      simp only [List.getD, List.getElem?_eq_getElem hjl, Option.getD_some] at this
      simpa using this
  · have : i = es.length := by omega
    rw [this, List.findIdx_eq_length]
    intro x hx
    obtain ⟨j, hj, rfl⟩ := List.getElem_of_mem hx
    have := h1 j (by omega)
    simp only [List.getD, List.getElem?_eq_getElem hj, Option.getD_some] at this
    simpa using this
theorem ltS_trans {a b c : ByteArray} (h1 : ltS a b = true) (h2 : ltS b c = true) : ltS a c = true := bytesLess_trans _ _ _ h1 h2
theorem ltS_up {x y t : ByteArray} (h1 : ltS x y = true) (h2 : ltS x t = false) : ltS y t = false := by
  rw [← Bool.not_eq_true] at h2 ⊢
  exact fun h => h2 (ltS_trans h1 h)
def foundS (es : List ByteArray) (t : ByteArray) : Bool := es.any fun e => e.toList == t.toList
theorem ba_ext {x t : ByteArray} (h : x.toList = t.toList) : x = t := by
  rw [ByteArray.toList_eq, ByteArray.toList_eq] at h
  obtain ⟨x⟩ := x
  obtain ⟨t⟩ := t
  simp only at h
  rw [Array.toList_inj.1 h]
theorem foundS_iff (es : List ByteArray) (t : ByteArray) : foundS es t = true ↔ t ∈ es := by
  unfold foundS
  rw [List.any_eq_true]
  constructor
  · rintro ⟨x, h1, h2⟩
    rw [beq_iff_eq] at h2
    rw [← ba_ext h2]; exact h1
  · intro h; exact ⟨t, h, by simp⟩
theorem foundS_not {es : List ByteArray} {t : ByteArray} (h : ¬ t ∈ es) : foundS es t = false := by rw [← Bool.not_eq_true, foundS_iff]; exact h
set_option maxHeartbeats 2000000 in
theorem BinarySearchSf_any (v : Value) (es : List ByteArray) (t : ByteArray) (w : World) (hx : Rd w v es.length 1 (strs es)) (hl : es.length ≤ 1048576) (hup : ∀ a b, a < b → b < es.length → ltS (es.getD a ByteArray.empty) (es.getD b ByteArray.empty) = true) :
    Calls Tryz.prog 190 #[v, .string t] w fun e w' => e = .returned (.tuple #[.int .i64 (firstGeS es t : Nat), .bool (foundS es t)]) ∧ ∃ n, w' = w.drewN n := by
  obtain ⟨A, ca, rfl, _, _, _⟩ := hx.form
  have HX := hid hx
  have HUP := hid hup
  clear hx hup
  go_enter Tryz.func190, Tryz.ntmps190
  go_wp2
  go_loop [7, 8] (fun u x => ∃ i j : Nat, i ≤ j ∧ j ≤ es.length ∧ u = .int .i64 i ∧ x = .int .i64 j ∧ Hid (∀ a, a < i → ltS (es.getD a ByteArray.empty) t = true) ∧ Hid (∀ a, j ≤ a → a < es.length → ltS (es.getD a ByteArray.empty) t = false)) (fun u x => (intOf x).toNat - (intOf u).toNat)
  case atStart => exact ⟨0, es.length, by omega, by omega, rfl, rfl, hid (fun a h => by omega), hid (fun a h1 h2 => by omega)⟩
  case round =>
    obtain ⟨i, j, hij, hj, rfl, rfl, H1, H2⟩ := hrel
    by_cases hlt : i < j
    · obtain ⟨b, o, rfl, hs⟩ := HX.out.atS (by omega)
      obtain ⟨m, hm⟩ : ∃ m, (i + j) / 2 = m := ⟨_, rfl⟩
      have hm' : ((i : Int) + (j : Int)) / 2 = (m : Int) := by omega
      have hml : m < es.length := by omega
      have c1 := hs m hml
      have him : i ≤ m := by omega
      have hmj : m < j := by omega
      have HLT : Hid (ltS (es.getD m ByteArray.empty) t = true → ∀ a, a < m + 1 → ltS (es.getD a ByteArray.empty) t = true) := hid (by
        intro h a ha
        by_cases ham : a = m
        · subst ham; exact h
        · exact ltS_trans (HUP.out a m (by omega) hml) h)
      have HGE : Hid (ltS (es.getD m ByteArray.empty) t = false → ∀ a, m ≤ a → a < es.length → ltS (es.getD a ByteArray.empty) t = false) := hid (by
        intro h a ha1 ha2
        by_cases ham : a = m
        · subst ham; exact h
        · exact ltS_up (HUP.out m a (by omega) ha2) h)
      clear hs hm
      generalize es.getD m ByteArray.empty = x at *
      have HLS := hid (fun (w2 : World) => LessS_any x t w2)
      obtain ⟨bl, hbl⟩ : ∃ bl, ltS x t = bl := ⟨_, rfl⟩
      rw [hbl] at HLT HGE HLS
      clear hbl
      cases bl
      · have HG := hid (HGE.out rfl)
        clear HLT HGE
        go_wp2_with (go_at_call 199; refine (HLS.out _).mono ?_; rintro e w' ⟨rfl, hw⟩; subst hw)
        go_round
        case rel => exact ⟨i, m, by omega, by omega, rfl, rfl, H1, HG⟩
        case measure => simp [intOf]; omega
      · have HG := hid (HLT.out rfl)
        clear HLT HGE
        go_wp2_with (go_at_call 199; refine (HLS.out _).mono ?_; rintro e w' ⟨rfl, hw⟩; subst hw)
        go_round
        case rel => exact ⟨m + 1, j, by omega, by omega, by go_num, rfl, HG, H2⟩
        case measure => simp [intOf]; omega
    · have hf : firstGeS es t = i := firstGeS_eq es t i (by omega) H1.out (fun h => H2.out i (by omega) h)
      have HF := hid hf
      clear hf
      by_cases hie : i < es.length
      · obtain ⟨b, o, rfl, hs⟩ := HX.out.atS (by omega)
        have c1 := hs i hie
        have HMEM : Hid (es.getD i ByteArray.empty = t → t ∈ es) := hid (fun h => by
          rw [← h]; simp [List.getD, List.getElem?_eq_getElem hie])
        have HNOT : Hid (es.getD i ByteArray.empty ≠ t → ¬ t ∈ es) := hid (fun h hm => by
          obtain ⟨a, ha, hat⟩ := List.getElem_of_mem hm
          have hg : es.getD a ByteArray.empty = t := by simp [List.getD, List.getElem?_eq_getElem ha, hat]
          by_cases h1 : a < i
          · have h5 := H1.out a h1
            rw [hg] at h5
            unfold ltS at h5
            rw [bytesLess_self] at h5; cases h5
          · by_cases h2 : a = i
            · subst h2; exact h hg
            · have h3 := HUP.out i a (by omega) ha
              have h4 := H2.out i (by omega) hie
              rw [hg, h4] at h3; cases h3)
        clear hs
        change w.cell? ⟨b, o + i, none⟩ = some (.string (es.getD i ByteArray.empty)) at c1
        generalize es.getD i ByteArray.empty = x at *
        by_cases hxt : x = t
        · have hd : foundS es t = true := (foundS_iff es t).2 (HMEM.out hxt)
          have HD := hid hd
          subst hxt
          have hb := eqS_self x
          clear hd HMEM HNOT
          go_wp2_with (go_at_call 228; refine (isNaNsS_any _ _).mono ?_; rintro e w' ⟨rfl, hw⟩; subst hw)
          all_goals go_ret2
          all_goals exact ⟨by rw [HF.out, HD.out]; rfl, 0, rfl⟩
        · have hd : foundS es t = false := foundS_not (HNOT.out hxt)
          have HD := hid hd
          have hb : (x.toList == t.toList) = false := beq_eq_false_iff_ne.2 (fun h => hxt (by
            exact ba_ext h))
          clear hd HMEM HNOT hxt
          go_wp2_with (go_at_call 228; refine (isNaNsS_any _ _).mono ?_; rintro e w' ⟨rfl, hw⟩; subst hw)
          all_goals go_ret2
          all_goals exact ⟨by rw [HF.out, HD.out]; rfl, 0, rfl⟩
      · have hd : foundS es t = false := foundS_not (fun hm => by
          obtain ⟨a, ha, hat⟩ := List.getElem_of_mem hm
          have hg : es.getD a ByteArray.empty = t := by simp [List.getD, List.getElem?_eq_getElem ha, hat]
          have h5 := H1.out a (by omega)
          rw [hg] at h5
          unfold ltS at h5
          rw [bytesLess_self] at h5; cases h5)
        have HD := hid hd
        clear hd
        go_wp2
        all_goals go_ret2
        all_goals exact ⟨by rw [HF.out, HD.out]; rfl, 0, rfl⟩
end Go.Proofs.YthonbfojpbfmgaaGreatDoor

/- Package codec: cells parted into values and the bitmap of the NULLs (strings). -/
set_option linter.unusedVariables false
set_option linter.unusedSimpArgs false
set_option linter.unnecessarySimpa false
set_option maxRecDepth 100000
namespace Go.Proofs.YthonbfojpbfmgaaGreatDoor
open Go.RowKit

theorem m_Value_S : ∀ w : World, (method 386 66 (.agg #[]) "Value").run Tryz.prog w = .ok (267, .agg #[]) w := fun _ => by kernel_rfl
set_option maxHeartbeats 1000000 in
theorem ValueGen_S (n : Bool) (x : Int) (s : ByteArray) (w : World) : Calls Tryz.prog 267 #[.agg #[], .agg #[.bool n, .int .i64 x, .string s]] w fun e w' => e = .returned (.string s) ∧ Below w.heap.size w w' := by
  go_enter Tryz.func267, Tryz.ntmps267
  go_wp2
  go_ret
  exact ⟨rfl, ((brefl w).alloc (Nat.le_refl _) _).alloc (by simp) _⟩
end Go.Proofs.YthonbfojpbfmgaaGreatDoor

/- Package kernel: the test of a leaf, of strings. -/
set_option linter.unusedVariables false
set_option linter.unusedSimpArgs false
set_option linter.unnecessarySimpa false
set_option maxRecDepth 100000
namespace Go.Proofs.YthonbfojpbfmgaaGreatDoor
open Go.RowKit

set_option maxHeartbeats 8000000 in
theorem testOfS_any (op col : Int) (av : Value) (args : List C3) (w : World) (hx : Rd w av args.length 3 (cells3 args)) (hl : args.length ≤ 1048576) :
    Calls Tryz.prog 55 #[.iface 66 (.agg #[]), .agg #[.int .i64 op, .int .i64 col, av]] w fun e w' => ∃ lv, e = .returned (.agg #[.int .i64 op, lv]) ∧
      w'.ownsRow w.heap.size 9 1 lv (litsS op (args.map C3.s)).length (strs (litsS op (args.map C3.s))) ∧ Below w.heap.size w w' := by
  have HX := hid hx
  obtain ⟨A1, ca, rfl, _, _, _⟩ := hx.form
  clear hx
  have HB0 := hid (((brefl w).alloc (Nat.le_refl _) (.cells #[.int .i64 op, .int .i64 col, .slice A1 args.length ca] 25)).alloc (by simp) (.cells #[.int .i64 0, .slice none 0 0] 106))
  have HRN : Hid (Row ((w.alloc (.cells #[.int .i64 op, .int .i64 col, .slice A1 args.length ca] 25)).alloc (.cells #[.int .i64 0, .slice none 0 0] 106)) w.heap.size 25 [.int .i64 op, .int .i64 col, .slice A1 args.length ca]) := hid (by
    have h1 : Row (w.alloc (.cells #[.int .i64 op, .int .i64 col, .slice A1 args.length ca] 25)) w.heap.size 25 [.int .i64 op, .int .i64 col, .slice A1 args.length ca] := by unfold Row; rw [heap_alloc_new]
    exact h1.mono ((brefl _).alloc (Nat.le_refl _) _))
  have HRR : Hid (Row ((w.alloc (.cells #[.int .i64 op, .int .i64 col, .slice A1 args.length ca] 25)).alloc (.cells #[.int .i64 0, .slice none 0 0] 106)) (w.heap.size + 1) 106 [.int .i64 0, .slice none 0 0]) := hid (by
    have e : w.heap.size + 1 = (w.alloc (.cells #[.int .i64 op, .int .i64 col, .slice A1 args.length ca] 25)).heap.size := by simp
    rw [e]; unfold Row; rw [heap_alloc_new])
  have HSZ : Hid (((w.alloc (.cells #[.int .i64 op, .int .i64 col, .slice A1 args.length ca] 25)).alloc (.cells #[.int .i64 0, .slice none 0 0] 106)).heap.size = w.heap.size + 2) := hid (by simp)
  obtain ⟨n, hn⟩ : ∃ n, args.length = n := ⟨_, rfl⟩
  have HN := hid hn
  simp only [hn] at HX HB0 HRN HRR HSZ hl ⊢
  clear hn
  have hlm : (((args.map C3.s).map (·.data.toList)).mergeSort fun x y => decide (x ≤ y)).length = n := by rw [List.length_mergeSort, List.length_map, List.length_map]; exact HN.out
  have HSO : Hid (∀ (w1 : World) (v : Value) (B : Nat), w1.ownsRow B 9 1 v n (strs (args.map C3.s)) → B ≤ w1.heap.size → Calls Tryz.prog 103 #[v] w1 fun e w' => e = .returned (.tuple #[]) ∧ w'.ownsRow B 9 1 v n ((((args.map C3.s).map (·.data.toList)).mergeSort fun x y => decide (x ≤ y)).map encStr) ∧ Below B w1 w') := hid (by
    intro w1 v B h h2
    have h3 := SortS_any B ((args.map C3.s).map (·.data.toList)) v w1 (by rw [List.length_map, List.length_map, strs_enc, HN.out]; exact h) h2 (by rw [List.length_map, List.length_map, HN.out]; exact hl)
    rw [hlm] at h3; exact h3)
  have HCO : Hid (∀ (w1 : World) (v : Value) (B : Nat), w1.ownsRow B 9 1 v n ((((args.map C3.s).map (·.data.toList)).mergeSort fun x y => decide (x ≤ y)).map encStr) → B ≤ w1.heap.size → Calls Tryz.prog 104 #[v] w1 fun e w' => ∃ v', e = .returned v' ∧ w'.ownsRow B 9 1 v' (dictS (args.map C3.s)).length (strs (dictS (args.map C3.s))) ∧ Below B w1 w') := hid (by
    intro w1 v B h h2
    have h3 := CompactS_any B _ v w1 (by rw [hlm]; exact h) h2 (by omega)
    rw [strs_dict, show (Lib.compact (((args.map C3.s).map (·.data.toList)).mergeSort fun x y => decide (x ≤ y))).length = (dictS (args.map C3.s)).length by unfold dictS; rw [List.length_map]] at h3
    exact h3)
  clear hlm
  generalize (((args.map C3.s).map (·.data.toList)).mergeSort fun x y => decide (x ≤ y)).map encStr = ms at *
  have HTK := hid (fun (j : Nat) (h : j < args.length) => take_mapd_snoc C3.s args C3.df j h)
  have HLV : Hid ((args.map C3.s).length = n) := hid (by rw [List.length_map]; exact HN.out)
  have HR7 : Hid (op = 7 → litsS op (args.map C3.s) = dictS (args.map C3.s)) := hid (fun h => by unfold litsS; rw [if_pos h])
  have HR8 : Hid (op ≠ 7 → litsS op (args.map C3.s) = args.map C3.s) := hid (fun h => by unfold litsS; rw [if_neg h])
  generalize litsS op (args.map C3.s) = R at *
  generalize dictS (args.map C3.s) = D at *
  go_enter Tryz.func55, Tryz.ntmps55
  go_upto_region 1 with fail
  generalize (w.alloc (.cells #[.int .i64 op, .int .i64 col, .slice A1 n ca] 25)).alloc (.cells #[.int .i64 0, .slice none 0 0] 106) = w0 at *
  obtain ⟨k0, k1, k2⟩ := cell3 HRN.out
  go_upto_region 2 with (refine upon_make 9 (.string ByteArray.empty) 16 Tryz.underlying58 Tryz.infoStr rfl n (by omega) (by omega) (by omega) (by unfold maxLen; omega) ?_; intro w2 hrow2 hb2 hsz2)
  obtain ⟨q2, hq2⟩ : ∃ q2, w0.heap.size = q2 := ⟨_, rfl⟩
  have HQ2 := hid hq2
  rw [hq2] at hrow2 hb2 hsz2 HSZ ⊢
  have hq0 : w.heap.size + 2 = q2 := HSZ.out.symm
  have HROW2 := hid hrow2
  have HB2 := hid hb2
  have HX0 := hid (HX.out.mono HB0.out)
  have HRN2 := hid (HRN.out.below hb2 (by omega))
  clear hrow2 hb2 hq2 k0 k1 k2 HX
  obtain ⟨k0, k1, k2⟩ := cell3 HRN2.out
  clear HRN2
  go_wp2_with fail
  clear k0 k1 k2
  go_loopw [15] (fun i wr => ∃ j : Nat, j ≤ n ∧ i = .int .i64 j ∧ Hid (Row wr q2 9 (strs ((args.map C3.s).take j) ++ List.replicate (n - j) (.string ByteArray.empty))) ∧ Hid (Below q2 w0 wr) ∧ Hid (q2 < wr.heap.size)) (fun i _ => n - (intOf i).toNat)
  case atStart => exact ⟨0, by omega, rfl, hid (by simpa [strs] using HROW2.out), HB2, hid (by omega)⟩
  case round =>
    obtain ⟨j, hj, rfl, HR, HB, HZ⟩ := hrel
    by_cases hlt : j < n
    · obtain ⟨b, o, rfl, hcells⟩ := (HX0.out.mono (by rw [HQ2.out]; exact HB.out)).at3 (by omega)
      obtain ⟨l0, l1, l2⟩ := hcells j (by rw [HN.out]; exact hlt)
      have HT := hid (HTK.out j (by rw [HN.out]; exact hlt))
      clear hcells
      generalize args.getD j C3.df = X at *
      obtain ⟨xn, xi, xs'⟩ := X
      simp only at l0 l1 l2 HT
      have HBA := hid ((brefl wr).alloc (Nat.le_refl _) (.cells #[.bool xn, .int .i64 xi, .string xs'] 42))
      have HRW : Hid (Row (wr.alloc (.cells #[.bool xn, .int .i64 xi, .string xs'] 42)) wr.heap.size 42 [.bool xn, .int .i64 xi, .string xs']) := hid (by unfold Row; rw [heap_alloc_new])
      have HR4 := hid (HR.out.mono HBA.out)
      have HB4 := hid (HB.out.trans (HBA.out.mono (Nat.le_of_lt HZ.out)))
      have HZ4 := hid (Nat.lt_of_lt_of_le HZ.out HBA.out.size)
      go_upto_region 5 with fail
      generalize wr.alloc (.cells #[.bool xn, .int .i64 xi, .string xs'] 42) = w4 at *
      have c0 : w4.cell? ⟨wr.heap.size, 0, none⟩ = some (.bool xn) := by rw [HRW.out.cell]; rfl
      have c1 : w4.cell? ⟨wr.heap.size, 1, none⟩ = some (.int .i64 xi) := by rw [HRW.out.cell]; rfl
      have c2 : w4.cell? ⟨wr.heap.size, 2, none⟩ = some (.string xs') := by rw [HRW.out.cell]; rfl
      generalize wr.heap.size = qq at *
      clear l0 l1 l2
      have hmv := m_Value_S
      go_wp2_with (go_at_call 267; refine (ValueGen_S xn xi xs' _).mono ?_; rintro e w5 ⟨rfl, hb5⟩; have HR5 := hid (HR4.out.mono hb5); have HB5 := hid (HB4.out.trans (hb5.mono (Nat.le_of_lt HZ4.out))); have HZ5 := hid (Nat.lt_of_lt_of_le HZ4.out hb5.size); clear hb5 hmv c0 c1 c2; have hcell : w5.cell? ⟨q2, j, none⟩ = some (.string ByteArray.empty) := (by rw [HR5.out.cell]; exact get_fill _ _ _ _ (by simp [strs, List.length_take, HN.out]; omega) (by omega)); have hfr := HR5.out.frozen j)
      go_roundw
      case rel =>
        refine ⟨j + 1, by omega, by go_num, hid ?_, hid (below_set HB5.out _ _ _ (Nat.le_refl _)), hid (by simpa [World.setCell] using HZ5.out)⟩
        have hss := HR5.out.set j (.string xs')
        rw [set_fill _ _ _ _ _ (by simp [strs, List.length_take, HN.out]; omega) (by omega)] at hss
        rw [HT.out, strs_append, ← Nat.sub_sub n j 1]
        exact hss
      case measure => simp [intOf]; omega
    · obtain rfl : j = n := by omega
      have htk : (args.map C3.s).take j = args.map C3.s := by rw [← HLV.out, List.take_length]
      rw [htk, Nat.sub_self, List.replicate_zero, List.append_nil] at HR
      have HOW := hid (HR.out.owns (B := q2) (n := j) (Nat.le_refl _) (by rw [strs_length, HLV.out]) (by unfold maxLen; omega))
      have HRNw := hid (HRN.out.below HB.out (by omega))
      have HRRw := hid (HRR.out.below HB.out (by omega))
      have HBW := hid (HB0.out.trans (HB.out.mono (by omega)))
      have hzz := HZ.out
      clear HTK HR HROW2 HB2 HB HRN HRR HX0 htk hsz2
      obtain ⟨k0, k1, k2⟩ := cell3 HRNw.out
      generalize wr = w5 at *
      by_cases h7 : op = 7
      · have hrd := HR7.out h7
        subst hrd
        clear HR7 HR8
        subst h7
        go_upto_region 8 with fail
        clear k0 k1 k2
        go_upto_region 10 with (first
          | (go_at_call 103; refine (HSO.out w5 _ q2 HOW.out (Nat.le_of_lt hzz)).mono ?_; rintro e w6 ⟨rfl, h1, h2⟩; have K1 := hid h1; have K2 := hid h2; clear h1 h2)
          | (go_at_call 104; refine (HCO.out w6 _ q2 K1.out (Nat.le_trans (Nat.le_of_lt hzz) K2.out.size)).mono ?_; rintro e w7 ⟨v7, rfl, h1, h2⟩; obtain ⟨A7, c7, rfl, _⟩ := owns_form h1; have L1 := hid h1; have L2 := hid (K2.out.trans h2); clear h1 h2))
        have HRN7 := hid (HRNw.out.below L2.out (by omega))
        have HRR7 := hid (HRRw.out.below L2.out (by omega))
        have HB7 := hid (HBW.out.trans (L2.out.mono (by omega)))
        obtain ⟨k0, k1, k2⟩ := cell3 HRN7.out
        obtain ⟨z0, z1⟩ := cellP HRR7.out
        have f0 := HRR7.out.frozen 0
        have f1 := HRR7.out.frozen 1
        go_wp2_with fail
        clear k0 k1 k2 z0 z1 f0 f1
        have HCF := hid (((Chg.refl (w.heap.size + 1) (w.heap.size + 1) w7).setCell (w.heap.size + 1) 0 (.int .i64 7) (.inl rfl)).setCell (w.heap.size + 1) 1 (.slice A7 R.length c7) (.inl rfl))
        have HRF := hid ((HRR7.out.set 0 (.int .i64 7)).set 1 (.slice A7 R.length c7))
        have HBF := hid (below_set (below_set HB7.out (w.heap.size + 1) 0 (.int .i64 7) (by omega)) (w.heap.size + 1) 1 (.slice A7 R.length c7) (by omega))
        have HOF := hid (owns_low (B' := w.heap.size) (owns_chg L1.out HCF.out (by omega) (by omega)) (by omega))
        generalize (w7.setCell ⟨w.heap.size + 1, 0, none⟩ (.int .i64 7)).setCell ⟨w.heap.size + 1, 1, none⟩ (.slice A7 R.length c7) = wF at *
        have y0 : wF.cell? ⟨w.heap.size + 1, 0, none⟩ = some (.int .i64 7) := by rw [HRF.out.cell]; rfl
        have y1 : wF.cell? ⟨w.heap.size + 1, 1, none⟩ = some (.slice A7 R.length c7) := by rw [HRF.out.cell]; rfl
        refine bodyPost_ret (v := .agg #[.int .i64 7, (.slice A7 R.length c7)]) ?_ rfl ⟨_, rfl, HOF.out, HBF.out⟩
        simp [results, Tryz.results55, go_sem, y0, y1]
      · have hrd := HR8.out h7
        subst hrd
        clear HR7 HR8
        have h7b : (op == 7) = false := by simpa using h7
        obtain ⟨z0, z1⟩ := cellP HRRw.out
        have f0 := HRRw.out.frozen 0
        have f1 := HRRw.out.frozen 1
        go_wp2_with fail
        clear k0 k1 k2 z0 z1 f0 f1
        have HOW2 : Hid (w5.ownsRow q2 9 1 (.slice (some ⟨q2, 0, none⟩) j j) (args.map C3.s).length (strs (args.map C3.s))) := hid (by rw [HLV.out]; exact HOW.out)
        have HCF := hid (((Chg.refl (w.heap.size + 1) (w.heap.size + 1) w5).setCell (w.heap.size + 1) 0 (.int .i64 op) (.inl rfl)).setCell (w.heap.size + 1) 1 (.slice (some ⟨q2, 0, none⟩) j j) (.inl rfl))
        have HRF := hid ((HRRw.out.set 0 (.int .i64 op)).set 1 (.slice (some ⟨q2, 0, none⟩) j j))
        have HBF := hid (below_set (below_set HBW.out (w.heap.size + 1) 0 (.int .i64 op) (by omega)) (w.heap.size + 1) 1 (.slice (some ⟨q2, 0, none⟩) j j) (by omega))
        have HOF := hid (owns_low (B' := w.heap.size) (owns_chg HOW2.out HCF.out (by omega) (by omega)) (by omega))
        generalize (w5.setCell ⟨w.heap.size + 1, 0, none⟩ (.int .i64 op)).setCell ⟨w.heap.size + 1, 1, none⟩ (.slice (some ⟨q2, 0, none⟩) j j) = wF at *
        have y0 : wF.cell? ⟨w.heap.size + 1, 0, none⟩ = some (.int .i64 op) := by rw [HRF.out.cell]; rfl
        have y1 : wF.cell? ⟨w.heap.size + 1, 1, none⟩ = some (.slice (some ⟨q2, 0, none⟩) j j) := by rw [HRF.out.cell]; rfl
        refine bodyPost_ret (v := .agg #[.int .i64 op, (.slice (some ⟨q2, 0, none⟩) j j)]) ?_ rfl ⟨_, rfl, HOF.out, HBF.out⟩
        simp [results, Tryz.results55, go_sem, y0, y1]
end Go.Proofs.YthonbfojpbfmgaaGreatDoor
