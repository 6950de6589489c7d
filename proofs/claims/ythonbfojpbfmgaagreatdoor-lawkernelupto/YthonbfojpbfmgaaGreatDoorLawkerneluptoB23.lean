/- Package kernel: what the filters of both kinds have in common. -/
import Derived.Test.YthonbfojpbfmgaaGreatDoorLawkerneluptoB22
import Derived.Test.YthonbfojpbfmgaaGreatDoorLawkerneluptoB5
import Derived.Test.YthonbfojpbfmgaaGreatDoorLawkerneluptoB8
import Derived.Test.YthonbfojpbfmgaaGreatDoorLawkerneluptoB19
import Derived.Test.YthonbfojpbfmgaaGreatDoorLawkerneluptoB10
import Derived.Test.YthonbfojpbfmgaaGreatDoorLawkerneluptoB17
import Derived.Test.YthonbfojpbfmgaaGreatDoorLawkerneluptoB21
import Derived.Test.YthonbfojpbfmgaaGreatDoorLawkerneluptoB20
import Derived.Test.YthonbfojpbfmgaaGreatDoorLawkerneluptoB9
set_option linter.unusedVariables false
set_option linter.unusedSimpArgs false
set_option linter.unnecessarySimpa false
set_option maxRecDepth 100000
namespace Go.Proofs.YthonbfojpbfmgaaGreatDoor
open Go.RowKit

/-- a pair that is answered with code 0 -/
def FilSays (w : World) (e : Ending) (w' : World) (rows : Nat) (FT FU : Nat → Bool) : Prop := ∃ tv uv zt zu, e = .returned (.tuple #[.agg #[tv, uv], .int .i64 0]) ∧ BitsOf rows FT zt ∧ BitsOf rows FU zu ∧
  w'.ownsRow w.heap.size 40 1 tv ((rows + 63) / 64) (u64s zt) ∧ w'.ownsRow w.heap.size 40 1 uv ((rows + 63) / 64) (u64s zu) ∧ (∀ k, tv.ownBlock = some k → uv.ownBlock ≠ some k) ∧ Below w.heap.size w w'
def FilErr (w : World) (e : Ending) (w' : World) (code : Int) : Prop := e = .returned (.tuple #[.agg #[.slice none 0 0, .slice none 0 0], .int .i64 code]) ∧ Below w.heap.size w w'
theorem cell_setP (w : World) (p g i : Nat) (u v : Value) (h : g ≠ p) : ((w.setCell ⟨p, 0, none⟩ u).setCell ⟨p, 1, none⟩ v).cell? ⟨g, i, none⟩ = w.cell? ⟨g, i, none⟩ :=
  World.cell?_of_block (w := w) (by rw [heap_setCell_other _ _ _ _ (by simpa using h), heap_setCell_other _ _ _ _ (by simpa using h)])
theorem pack_bits {rows : Nat} {ws : List Nat} (hr : rows ≤ 65536) (h : okPack 1 rows ws = true) : BitsOf rows (bitOf ws) ws := by
  obtain ⟨h1, h2, h3⟩ := isPack_isBm ((okPack_nat (wd := 1) (n := rows) ws (by omega) hr).1 h)
  refine ⟨by rw [h1, nWords1k], h2, fun i => ?_⟩
  by_cases hi : i < 64 * ws.length
  · exact h3 i hi
  · rw [bitOf_out _ _ (by omega), Bool.and_false]
theorem null_bits {rows : Nat} {nulls : List Nat} (hr : rows ≤ 65536) (h : okPack 1 rows nulls = true) : BitsOf rows (fun i => !bitOf nulls i) (cmpR 1 rows 1 nulls 0) := by
  have hb := cmpR_bits 1 rows 1 nulls 0 (by unfold cmpOk; rw [show ((1 : Nat) : Int) = 1 from rfl, h]; rfl)
  refine ⟨hb.1, hb.2.1, fun i => ?_⟩
  have hb2 := hb.2.2 i
  rw [show ((1 : Nat) : Int) = 1 from rfl] at hb2
  rw [hb2]
  congr 1
  unfold cmpF standsB
  rw [if_pos rfl, laneOf_one]
  show decide ((bitOf nulls i).toNat = 0) = !bitOf nulls i
  cases bitOf nulls i <;> rfl
def filU (op : Int) (rows : Nat) (xs : List Nat) (r : Nat) : Bool := if op = 9 then false else bitOf (headOf rows xs).nulls r
end Go.Proofs.YthonbfojpbfmgaaGreatDoor

/- Package kernel: filter of one kind (integers). -/
set_option linter.unusedVariables false
set_option linter.unusedSimpArgs false
set_option linter.unnecessarySimpa false
set_option maxRecDepth 100000
namespace Go.Proofs.YthonbfojpbfmgaaGreatDoor
open Go.RowKit

/-- what a row holds that is not NULL -/
def rowV_I (rows : Nat) (xs : List Nat) (r : Nat) : Int := vAt_I rows xs (r - rankN (headOf rows xs).nulls (r + 1))

/-- what a body that is valid has, for a filter -/
structure FilD_I (rows : Nat) (xs : List Nat) : Prop where
  pk : okPack 1 rows (headOf rows xs).nulls = true
  hd : HitD_I (headOf rows xs).codec (headOf rows xs).wd (cntOf rows (headOf rows xs).nulls) (lkOut_I rows xs).list (lkOut_I rows xs).ends (lkBase_I rows xs) (lkOut_I rows xs).lanes
theorem lits_ok_I {op col : Int} {args : List C3} (h : leafOk 1 ⟨op, col, args⟩ = true) (h9 : op ≠ 9) (hal : args.length ≤ 1048576) :
    litsOk op (litsI op (args.map C3.i)).length ∧ (op = 7 → (litsI op (args.map C3.i)).Pairwise (· < ·)) ∧ (litsI op (args.map C3.i)).length ≤ 1048576 := by
  have hd := dictI_le (args.map C3.i)
  rw [List.length_map] at hd
  unfold leafOk takesB at h
  simp only [Bool.and_eq_true] at h
  obtain ⟨⟨h1, _⟩, _⟩ := h
  unfold litsOk litsI
  by_cases h7 : op = 7
  · subst h7
    rw [if_pos rfl]
    exact ⟨⟨by omega, by omega, fun h => absurd h (by omega), fun h => absurd h (by omega)⟩, fun _ => (dictI_spec _).1, by omega⟩
  · rw [if_neg h7, List.length_map]
    rw [if_neg h7] at h1
    by_cases h8 : op = 8
    · rw [if_pos h8] at h1
      simp only [decide_eq_true_eq] at h1
      exact ⟨⟨by omega, by omega, fun h => absurd h (by omega), fun _ => h1⟩, fun h => absurd h h7, hal⟩
    · rw [if_neg h8, if_neg h9] at h1
      simp only [Bool.and_eq_true, decide_eq_true_eq] at h1
      exact ⟨⟨by omega, by omega, fun _ => h1.2, fun h => absurd h h8⟩, fun h => absurd h h7, hal⟩
theorem litsI_mem {op : Int} {xs : List Int} {x : Int} (h : x ∈ litsI op xs) : x ∈ xs := by
  unfold litsI at h
  split at h
  · exact ((dictI_spec xs).2 x).1 h
  · exact h
/-- the rows that are TRUE, and those that are UNKNOWN -/
def filT_I (op : Int) (args : List C3) (rows : Nat) (xs : List Nat) (r : Nat) : Bool := if op = 9 then bitOf (headOf rows xs).nulls r else !bitOf (headOf rows xs).nulls r && leafT op ((args.map C3.i).map pI) (pI (rowV_I rows xs r))

set_option maxHeartbeats 8000000 in
theorem filter_I (w : World) (v av : Value) (xs : List Nat) (rows : Nat) (op col : Int) (args : List C3) (hT : Tab w) (hv : Rd w v xs.length 1 (u8s xs)) (hb : ∀ x ∈ xs, x < 256) (hl : xs.length ≤ 16777216) (hrr : rows ≤ 65536)
    (hx : Rd w av args.length 3 (cells3 args)) (hal : args.length ≤ 1048576) (har : ∀ c ∈ args, okL_I c.i) (hval : lkOk_I rows xs = true → FilD_I rows xs) :
    Calls Tryz.prog 30 #[.iface 68 (.agg #[]), .int .i64 rows, v, .agg #[.int .i64 op, .int .i64 col, av]] w fun e w' =>
      (lkOk_I rows xs = false ∧ FilErr w e w' 1) ∨ (lkOk_I rows xs = true ∧ leafOk 1 ⟨op, col, args⟩ = false ∧ FilErr w e w' 2) ∨
      (lkOk_I rows xs = true ∧ leafOk 1 ⟨op, col, args⟩ = true ∧ FilSays w e w' rows (filT_I op args rows xs) (filU op rows xs)) := by
  have HLK := hid (fun (w2 : World) (h : Below w.heap.size w w2) => Look_I w2 v xs rows (hT.mono h hT.lt) (hv.mono h) hb hl hrr)
  have HLF := hid (fun (w2 : World) (h : Below w.heap.size w w2) => isLeaf_any 1 op col av args w2 (hx.mono h))
  obtain ⟨A0, c0, rfl, _, _, _⟩ := hv.form
  obtain ⟨A1, ca, rfl, _, _, _⟩ := hx.form
  have HX := hid hx
  have HT := hid hT
  have HVAL := hid hval
  have HAR := hid har
  clear hT hv hx hval har
  obtain ⟨n, hn⟩ : ∃ n, args.length = n := ⟨_, rfl⟩
  have HN := hid hn
  simp only [hn] at HX HLF hal ⊢
  have HB0 := hid (((brefl w).alloc (Nat.le_refl _) (.cells #[.int .i64 op, .int .i64 col, .slice A1 n ca] 25)).alloc (by simp) (.cells #[.slice none 0 0, .slice none 0 0] 30))
  have HRN : Hid (Row ((w.alloc (.cells #[.int .i64 op, .int .i64 col, .slice A1 n ca] 25)).alloc (.cells #[.slice none 0 0, .slice none 0 0] 30)) w.heap.size 25 [.int .i64 op, .int .i64 col, .slice A1 n ca]) := hid (by
    have h1 : Row (w.alloc (.cells #[.int .i64 op, .int .i64 col, .slice A1 n ca] 25)) w.heap.size 25 [.int .i64 op, .int .i64 col, .slice A1 n ca] := by unfold Row; rw [heap_alloc_new]
    exact h1.mono ((brefl _).alloc (Nat.le_refl _) _))
  have HRP : Hid (Row ((w.alloc (.cells #[.int .i64 op, .int .i64 col, .slice A1 n ca] 25)).alloc (.cells #[.slice none 0 0, .slice none 0 0] 30)) (w.heap.size + 1) 30 [.slice none 0 0, .slice none 0 0]) := hid (by
    have e : w.heap.size + 1 = (w.alloc (.cells #[.int .i64 op, .int .i64 col, .slice A1 n ca] 25)).heap.size := by simp
    rw [e]; unfold Row; rw [heap_alloc_new])
  have HSZ : Hid (((w.alloc (.cells #[.int .i64 op, .int .i64 col, .slice A1 n ca] 25)).alloc (.cells #[.slice none 0 0, .slice none 0 0] 30)).heap.size = w.heap.size + 2) := hid (by simp)
  have hnum := m_Number_I
  go_enter Tryz.func30, Tryz.ntmps30
  go_upto_region 1 with fail
  generalize (w.alloc (.cells #[.int .i64 op, .int .i64 col, .slice A1 n ca] 25)).alloc (.cells #[.slice none 0 0, .slice none 0 0] 30) = w0 at *
  go_wp2_with fail
  refine (HLK.out w0 HB0.out).mono ?_
  rintro e w1 ⟨hb1, ⟨h0, rfl⟩ | ⟨h0, nu, lv, ev, nv, bef, rfl, h1, h2, h3, h4, h5⟩⟩
  · have H0 := hid h0
    clear h0
    have HB1 := hid hb1
    have HB2 := hid (hb1.alloc hb1.size (.cells zeroCk_I.toArray 111))
    unfold zeroCk_I i64 nilS at HB2 ⊢
    have HRP2 := hid (HRP.out.mono HB2.out)
    clear hnum HLF HX HT HLK
    have z0 := HRP2.out.cell 0
    have z1 := HRP2.out.cell 1
    have f0 := HRP2.out.frozen 0
    have f1 := HRP2.out.frozen 1
    clear hb1
    go_wp2_with fail
    have HBF := hid (below_set (below_set (HB0.out.trans (HB2.out.mono HB0.out.size)) (w.heap.size + 1) 0 (.slice none 0 0) (by omega)) (w.heap.size + 1) 1 (.slice none 0 0) (by omega))
    have HRF := hid ((HRP2.out.set 0 (.slice none 0 0)).set 1 (.slice none 0 0))
    refine bodyPost_ret (v := .tuple #[.agg #[.slice none 0 0, .slice none 0 0], .int .i64 1]) ?_ rfl (.inl ⟨H0.out, rfl, HBF.out⟩)
    have y0 := HRF.out.cell 0
    have y1 := HRF.out.cell 1
    simp at y0 y1
    simp [results, Tryz.results30, go_sem, y0, y1]
  · have H0 := hid h0
    clear h0
    have HB1 := hid hb1
    have hsz1 : w0.heap.size ≤ w1.heap.size := hb1.size
    have HCK := hid (@ck_laid_I w1 rows xs nu lv ev nv bef (owns_rd h1) h2 h3 h4 h5)
    have HNU := hid h1
    obtain ⟨A2, c2, rfl, _, _, _⟩ := (owns_rd h1).form
    obtain ⟨A3, c3, rfl, _, _, _⟩ := h2.form
    obtain ⟨A4, c4, rfl, _, _, _⟩ := h3.form
    obtain ⟨A5, c5, rfl, _, _, _⟩ := h4.form
    obtain ⟨A6, c6, rfl, _, _, _⟩ := h5.form
    have HB2 : Hid (Below w0.heap.size w0 (w1.alloc (.cells (ck_I rows (headOf rows xs).codec (headOf rows xs).wd (.slice A2 (headOf rows xs).nulls.length c2) (cntOf rows (headOf rows xs).nulls) (.slice A3 (lkOut_I rows xs).list.length c3) (.slice A4 (lkOut_I rows xs).ends.length c4) (lkBase_I rows xs) (.slice A5 (lkOut_I rows xs).lanes.length c5) kind_I (.slice A6 (headOf rows xs).nulls.length c6)).toArray 111))) := hid (hb1.alloc hb1.size _)
    have HNU2 := hid (owns_below HNU.out ((brefl w1).alloc (Nat.le_refl _) (.cells (ck_I rows (headOf rows xs).codec (headOf rows xs).wd (.slice A2 (headOf rows xs).nulls.length c2) (cntOf rows (headOf rows xs).nulls) (.slice A3 (lkOut_I rows xs).list.length c3) (.slice A4 (lkOut_I rows xs).ends.length c4) (lkBase_I rows xs) (.slice A5 (lkOut_I rows xs).lanes.length c5) kind_I (.slice A6 (headOf rows xs).nulls.length c6)).toArray 111)))
    have HRC : Hid (Row (w1.alloc (.cells (ck_I rows (headOf rows xs).codec (headOf rows xs).wd (.slice A2 (headOf rows xs).nulls.length c2) (cntOf rows (headOf rows xs).nulls) (.slice A3 (lkOut_I rows xs).list.length c3) (.slice A4 (lkOut_I rows xs).ends.length c4) (lkBase_I rows xs) (.slice A5 (lkOut_I rows xs).lanes.length c5) kind_I (.slice A6 (headOf rows xs).nulls.length c6)).toArray 111)) w1.heap.size 111 (ck_I rows (headOf rows xs).codec (headOf rows xs).wd (.slice A2 (headOf rows xs).nulls.length c2) (cntOf rows (headOf rows xs).nulls) (.slice A3 (lkOut_I rows xs).list.length c3) (.slice A4 (lkOut_I rows xs).ends.length c4) (lkBase_I rows xs) (.slice A5 (lkOut_I rows xs).lanes.length c5) kind_I (.slice A6 (headOf rows xs).nulls.length c6))) := hid (by unfold Row; rw [heap_alloc_new])
    have HPK := hid ((HVAL.out H0.out).pk)
    have HHD := hid ((HVAL.out H0.out).hd)
    clear h1 h2 h3 h4 h5 hb1 HLK HNU HVAL
    have HKK : Hid (cntOf rows (headOf rows xs).nulls ≤ rows ∧ cntOf rows (headOf rows xs).nulls + rankN (headOf rows xs).nulls rows = rows) := hid (by have := rankN_le (headOf rows xs).nulls rows; unfold cntOf; omega)
    generalize cntOf rows (headOf rows xs).nulls = kk at *
    generalize hH : headOf rows xs = H at *
    generalize hO : lkOut_I rows xs = O at *
    generalize hbs : lkBase_I rows xs = bs at *
    have HH := hid hH
    have HO := hid hO
    have HBSE := hid hbs
    clear hH hO hbs
    have HRCk := HRC
    unfold ck_I i64 kind_I at HB2 HNU2 HRC HCK ⊢
    go_upto_region 4 with fail
    generalize w1.alloc (.cells #[.int .i64 rows, .int .i64 H.codec, .int .i64 H.wd, .slice A2 H.nulls.length c2, .int .i64 kk, .slice A3 O.list.length c3, .slice A4 O.ends.length c4, .int .i64 bs, .slice A5 O.lanes.length c5, .iface 68 (.agg #[]), .slice A6 H.nulls.length c6] 111) = w2 at *
    have HW2 := hid (HB0.out.trans (HB2.out.mono HB0.out.size))
    have HRN2 := hid (HRN.out.mono HB2.out)
    obtain ⟨k0, k1, k2⟩ := cell3 HRN2.out
    have hgl : w.heap.size < w2.heap.size := HRN2.out.lt
    obtain ⟨ok, hok⟩ : ∃ ok, leafOk 1 ⟨op, col, args⟩ = ok := ⟨_, rfl⟩
    have HOK := hid hok
    rw [hok] at HLF
    clear hok
    cases ok
    · go_region_held3 (fun w' => w'.cell? ⟨w.heap.size, 0, none⟩ = some (.int .i64 op) ∧ w'.cell? ⟨w.heap.size, 1, none⟩ = some (.int .i64 col) ∧ w'.cell? ⟨w.heap.size, 2, none⟩ = some (.slice A1 n ca)) (go_keep)
        (first
          | (go_at_call 272; refine (IntsNumber_any _).mono ?_; rintro e w3 ⟨rfl, hb3⟩; have HB3 := hid ((bdrew (brefl w2) 1).trans hb3); have m0 := (HB3.out.cell (p := ⟨w.heap.size, 0, none⟩) hgl).trans k0; have m1 := (HB3.out.cell (p := ⟨w.heap.size, 1, none⟩) hgl).trans k1; have m2 := (HB3.out.cell (p := ⟨w.heap.size, 2, none⟩) hgl).trans k2; have hgl3 : w.heap.size < w3.heap.size := Nat.lt_of_lt_of_le hgl HB3.out.size; clear hb3)
          | (go_at_call 50; refine (HLF.out _ (bthen HW2.out HB3.out)).mono ?_; rintro e w4 ⟨rfl, hb4⟩; have HB4 := hid hb4; have q0 := (hb4.cell (p := ⟨w.heap.size, 0, none⟩) hgl3).trans m0; have q1 := (hb4.cell (p := ⟨w.heap.size, 1, none⟩) hgl3).trans m1; have q2 := (hb4.cell (p := ⟨w.heap.size, 2, none⟩) hgl3).trans m2; clear hb4))
      have HB5 := hid (bthen (bthen HB2.out HB3.out) HB4.out)
      have HRP5 := hid (HRP.out.mono HB5.out)
      have z0 := HRP5.out.cell 0
      have z1 := HRP5.out.cell 1
      have f0 := HRP5.out.frozen 0
      have f1 := HRP5.out.frozen 1
      clear q0 q1 q2 m0 m1 m2 k0 k1 k2 HLF HRN2 HRC HRCk HNU2 hgl3 hgl
      go_wp2_with fail
      have HBF := hid (below_set (below_set (HB0.out.trans (HB5.out.mono HB0.out.size)) (w.heap.size + 1) 0 (.slice none 0 0) (by omega)) (w.heap.size + 1) 1 (.slice none 0 0) (by omega))
      have HRF := hid ((HRP5.out.set 0 (.slice none 0 0)).set 1 (.slice none 0 0))
      refine bodyPost_ret (v := .tuple #[.agg #[.slice none 0 0, .slice none 0 0], .int .i64 2]) ?_ rfl (.inr (.inl ⟨H0.out, HOK.out, rfl, HBF.out⟩))
      have y0 := HRF.out.cell 0
      have y1 := HRF.out.cell 1
      simp at y0 y1
      simp [results, Tryz.results30, go_sem, y0, y1]
    · go_region_held3 (fun w' => w'.cell? ⟨w.heap.size, 0, none⟩ = some (.int .i64 op) ∧ w'.cell? ⟨w.heap.size, 1, none⟩ = some (.int .i64 col) ∧ w'.cell? ⟨w.heap.size, 2, none⟩ = some (.slice A1 n ca)) (go_keep)
        (first
          | (go_at_call 272; refine (IntsNumber_any _).mono ?_; rintro e w3 ⟨rfl, hb3⟩; have HB3 := hid ((bdrew (brefl w2) 1).trans hb3); have m0 := (HB3.out.cell (p := ⟨w.heap.size, 0, none⟩) hgl).trans k0; have m1 := (HB3.out.cell (p := ⟨w.heap.size, 1, none⟩) hgl).trans k1; have m2 := (HB3.out.cell (p := ⟨w.heap.size, 2, none⟩) hgl).trans k2; have hgl3 : w.heap.size < w3.heap.size := Nat.lt_of_lt_of_le hgl HB3.out.size; clear hb3)
          | (go_at_call 50; refine (HLF.out _ (bthen HW2.out HB3.out)).mono ?_; rintro e w4 ⟨rfl, hb4⟩; have HB4 := hid hb4; have q0 := (hb4.cell (p := ⟨w.heap.size, 0, none⟩) hgl3).trans m0; have q1 := (hb4.cell (p := ⟨w.heap.size, 1, none⟩) hgl3).trans m1; have q2 := (hb4.cell (p := ⟨w.heap.size, 2, none⟩) hgl3).trans m2; clear hb4))
      have HB5 := hid (bthen (bthen HB2.out HB3.out) HB4.out)
      have HRP5 := hid (HRP.out.mono HB5.out)
      by_cases h9 : op = 9
      · subst h9
        have HB45 := hid (bthen HB3.out HB4.out)
        have HRC5 := hid (HRC.out.mono HB45.out)
        have HNU5 := hid (owns_below HNU2.out HB45.out)
        have z0 := HRP5.out.cell 0
        have z1 := HRP5.out.cell 1
        have f0 := HRP5.out.frozen 0
        have f1 := HRP5.out.frozen 1
        have x3 : w4.cell? ⟨w1.heap.size, 3, none⟩ = some (.slice A2 H.nulls.length c2) := by rw [HRC5.out.cell]; rfl
        have hpg : w1.heap.size ≠ w.heap.size + 1 := by have := hsz1; have := HSZ.out; omega
        have hg4 : w1.heap.size < w4.heap.size := HRC5.out.lt
        clear m0 m1 m2 k0 k1 k2 HLF HRN2 HRC HRCk HNU2 hgl3 hgl
        go_upto_region 7 with fail
        clear q0 q1 q2
        have HNB := hid (fun w2 => newBitmap_any rows w2 (by omega))
        go_region_held3 (fun w' => w'.cell? ⟨w1.heap.size, 3, none⟩ = some (.slice A2 H.nulls.length c2)) (first | go_keep | (rw [cell_setP _ _ _ _ _ _ hpg]; assumption))
          (first
            | (go_at_call 51; refine (HNB.out _).mono ?_; rintro e w6 ⟨rfl, hr6, hb6, hs6⟩; have HB6 := hid ((bdrew (brefl w4) 1).trans hb6); have HR6 := hid hr6; have HS6 := hid hs6; have x36 := (HB6.out.cell (p := ⟨w1.heap.size, 3, none⟩) hg4).trans x3; have HRP6 := hid (HRP5.out.mono HB6.out); have z60 := HRP6.out.cell 0; have z61 := HRP6.out.cell 1; have f60 := HRP6.out.frozen 0; have f61 := HRP6.out.frozen 1; clear hr6 hb6 hs6))
        have HNU6 := hid (owns_below HNU5.out HB6.out)
        have HB5' := hid (HB0.out.trans (HB5.out.mono HB0.out.size))
        have HB6' := hid (HB5'.out.trans (HB6.out.mono HB5'.out.size))
        have hs4 : w.heap.size + 1 < w4.heap.size := HRP5.out.lt
        clear x3 x36 z0 z1 f0 f1
        go_wp2_with fail
        clear z60 z61 f60 f61
        have HCF := hid (((Chg.refl (w.heap.size + 1) (w.heap.size + 1) w6).setCell (w.heap.size + 1) 0 (.slice A2 H.nulls.length c2) (.inl rfl)).setCell (w.heap.size + 1) 1 (.slice (some ⟨w4.heap.size, 0, none⟩) ((rows + 63) / 64) ((rows + 63) / 64)) (.inl rfl))
        have HBF := hid (below_set (below_set HB6'.out (w.heap.size + 1) 0 (.slice A2 H.nulls.length c2) (by omega)) (w.heap.size + 1) 1 (.slice (some ⟨w4.heap.size, 0, none⟩) ((rows + 63) / 64) ((rows + 63) / 64)) (by omega))
        have HRF := hid ((HRP6.out.set 0 (.slice A2 H.nulls.length c2)).set 1 (.slice (some ⟨w4.heap.size, 0, none⟩) ((rows + 63) / 64) ((rows + 63) / 64)))
        have hBT := pack_bits hrr HPK.out
        have hzz : BitsOf rows (fun _ => false) (List.replicate ((rows + 63) / 64) 0) := by
          have hh := BitsTo.start rows (fun _ => false)
          exact ⟨hh.1, hh.2.1, fun i => by rw [hh.2.2]; simp⟩
        have hOU : w6.ownsRow w4.heap.size 40 1 (.slice (some ⟨w4.heap.size, 0, none⟩) ((rows + 63) / 64) ((rows + 63) / 64)) ((rows + 63) / 64) (u64s (List.replicate ((rows + 63) / 64) 0)) := HR6.out.owns (Nat.le_refl _) (by simp [u64s]) (by unfold maxLen; omega)
        have hz0 := HSZ.out
        have hOT : w6.ownsRow w0.heap.size 40 1 (.slice A2 H.nulls.length c2) ((rows + 63) / 64) (u64s H.nulls) := by
          rw [← hBT.1]; exact HNU6.out
        have hT2 := owns_low (B' := w.heap.size) (owns_chg hOT HCF.out (by omega) (by omega)) (by omega)
        have hU2 := owns_low (B' := w.heap.size) (owns_chg hOU HCF.out (by omega) (by omega)) (by omega)
        refine bodyPost_ret (v := .tuple #[.agg #[.slice A2 H.nulls.length c2, .slice (some ⟨w4.heap.size, 0, none⟩) ((rows + 63) / 64) ((rows + 63) / 64)], .int .i64 0]) ?_ rfl (.inr (.inr ⟨H0.out, HOK.out, _, _, H.nulls, _, rfl, ?_, ?_, hT2, hU2, ?_, HBF.out⟩))
        · have y0 := HRF.out.cell 0
          have y1 := HRF.out.cell 1
          simp at y0 y1
          simp [results, Tryz.results30, go_sem, y0, y1]
        · refine ⟨hBT.1, hBT.2.1, fun i => ?_⟩
          rw [hBT.2.2]; unfold filT_I; rw [if_pos rfl, HH.out]
        · refine ⟨hzz.1, hzz.2.1, fun i => ?_⟩
          rw [hzz.2.2]; unfold filU; rw [if_pos rfl]
        · intro k hk1 hk2
          have := (HNU5.out.lt k hk1).2
          injection hk2 with hk2
          have hk3 : w4.heap.size = k := hk2
          omega
      · have h9b : (op == 9) = false := beq_eq_false_iff_ne.2 h9
        have HB45 := hid (bthen HB3.out HB4.out)
        have HRC5 := hid (HRC.out.mono HB45.out)
        have HNU5 := hid (owns_below HNU2.out HB45.out)
        have HCK4 := hid (HCK.out.mono HB45.out)
        have HB5' := hid (HB0.out.trans (HB5.out.mono HB0.out.size))
        have hBT := pack_bits hrr HPK.out
        have HBT := hid hBT
        have HT4 := hid (HT.out.mono HB5'.out HT.out.lt)
        have HPS := hid (null_bits hrr HPK.out)
        have HX4 := hid (HX.out.mono HB5'.out)
        have HCMP := hid (Compare_any (.slice A2 H.nulls.length c2) H.nulls 1 rows 1 0 w4 HT4.out (owns_rd HNU5.out) hBT.2.1 (by omega) (by rw [hBT.1]; unfold maxLen; omega))
        have HTO := hid (fun (w5 : World) (h : Below w4.heap.size w4 w5) => testOfI_any op col (.slice A1 n ca) args w5 (by rw [HN.out]; exact HX4.out.mono h) (by rw [HN.out]; exact hal))
        have HLT := hid (lits_ok_I HOK.out h9 (by rw [HN.out]; exact hal))
        have HHO := hid (fun (w6 : World) (lv : Value) (h : Below w4.heap.size w4 w6) (hr : Rd w6 lv (litsI op (args.map C3.i)).length 1 (i64s (litsI op (args.map C3.i)))) =>
          hitsOf_I w6 w1.heap.size rows H.codec H.wd H.nulls kk O.list O.ends bs O.lanes op (litsI op (args.map C3.i)) lv (HCK4.out.mono h) (HT4.out.mono h HT4.out.lt) HHD.out ⟨hr, HLT.out.1, HLT.out.2.1, HLT.out.2.2⟩
            (fun x hx => by obtain ⟨c, hc, rfl⟩ := List.mem_map.1 (litsI_mem hx); exact HAR.out c hc))
        have HEX := hid (fun (w7 : World) (u v : Value) (zs : List Nat) (h : Below w4.heap.size w4 w7) (h1 : Rd w7 u (cmpR 1 rows 1 H.nulls 0).length 1 (u64s (cmpR 1 rows 1 H.nulls 0))) (h2 : Rd w7 v zs.length 1 (u64s zs)) (h3 : ∀ x ∈ zs, x < 18446744073709551616) (h4 : zs.length ≤ 1048576) =>
          Expand_any u v (cmpR 1 rows 1 H.nulls 0) zs rows w7 (HT4.out.mono h HT4.out.lt) h1 h2 HPS.out.2.1 h3 (by rw [HPS.out.1]; unfold maxLen; omega) (by unfold maxLen; omega))
        have x3 : w4.cell? ⟨w1.heap.size, 3, none⟩ = some (.slice A2 H.nulls.length c2) := by rw [HRC5.out.cell]; rfl
        have hg4 : w1.heap.size < w4.heap.size := HRC5.out.lt
        have hn4 : w.heap.size < w4.heap.size := by have := HRP5.out.lt; omega
        clear m0 m1 m2 k0 k1 k2 HLF HRN2 HRC HRCk HNU2 hgl3 hgl hBT hnum
        generalize cmpOk 1 rows 1 H.nulls = cok at *
        generalize cmpR 1 rows 1 H.nulls 0 = PS at *
        generalize hLS : litsI op (args.map C3.i) = LS at *
        have HLSE := hid hLS
        clear hLS
        go_upto_region 8 with fail
        go_upto_region 9 with (go_at_call 52; refine HCMP.out.mono ?_; rintro e w5 ⟨r1, rfl, h1, h2⟩; have HP1 := hid h1; have HB6 := hid h2; have t0 := (h2.cell (p := ⟨w.heap.size, 0, none⟩) hn4).trans q0; have t1 := (h2.cell (p := ⟨w.heap.size, 1, none⟩) hn4).trans q1; have t2 := (h2.cell (p := ⟨w.heap.size, 2, none⟩) hn4).trans q2; clear h1 h2)
        clear q0 q1 q2 x3 HCMP
        go_upto_region 10 with (first
          | (go_at_call 58; refine (HTO.out w5 HB6.out).mono ?_; rintro e w6 ⟨lv, rfl, h1, h2⟩; have HL1 := hid h1; have HB7 := hid (bthen HB6.out h2); have HB67 := hid h2; clear h1 h2)
          | (go_at_call 57; refine (HHO.out w6 lv HB7.out (owns_rd HL1.out)).mono ?_; rintro e w7 ⟨r2, zs, rfl, h1, h2, h3⟩; have HZ1 := hid h1; have HZ2 := hid h2; have HB8 := hid (bthen HB7.out h3); have HB78 := hid h3; clear h1 h2 h3; have HEXx := hid (HEX.out w7 r1 r2 zs HB8.out (owns_rd (owns_below (owns_below HP1.out HB67.out) HB78.out)) (by rw [HZ1.out.1]; exact HZ2.out) HZ1.out.2.1 (by rw [HZ1.out.1]; have := HKK.out; omega)))
          | (go_at_call 53; refine HEXx.out.mono ?_; rintro e w8 ⟨r3, rfl, h1, h2⟩; have HE1 := hid h1; have HB9 := hid (bthen HB8.out h2); have HB89 := hid h2; clear h1 h2))
        have HEB := hid (exp_bits hrr HKK.out.2 HPS.out HZ1.out)
        obtain ⟨A7, c7, rfl, _⟩ := owns_form HE1.out
        have HRC8 := hid (HRC5.out.mono HB9.out)
        have HRP8 := hid (HRP5.out.mono HB9.out)
        have HNU8 := hid (owns_below HNU5.out HB9.out)
        have x3 : w8.cell? ⟨w1.heap.size, 3, none⟩ = some (.slice A2 H.nulls.length c2) := by rw [HRC8.out.cell]; rfl
        have z0 := HRP8.out.cell 0
        have z1 := HRP8.out.cell 1
        have f0 := HRP8.out.frozen 0
        have f1 := HRP8.out.frozen 1
        have HBW := hid (HB5'.out.trans (HB9.out.mono HB5'.out.size))
        have hs4 : w.heap.size + 1 < w4.heap.size := HRP5.out.lt
        have hs47 : w4.heap.size ≤ w7.heap.size := HB8.out.size
        have hz0 := HSZ.out
        obtain ⟨R, hR⟩ : ∃ R, expR rows PS zs = R := ⟨_, rfl⟩
        simp only [hR] at HE1 HEB ⊢
        obtain ⟨m, hm⟩ : ∃ m, R.length = m := ⟨_, rfl⟩
        simp only [hm] at HE1 ⊢
        have HM := hid hm
        clear hR hm t0 t1 t2
        go_wp2_with fail
        clear z0 z1 f0 f1 x3
        have HCF := hid (((Chg.refl (w.heap.size + 1) (w.heap.size + 1) w8).setCell (w.heap.size + 1) 0 (.slice A7 m c7) (.inl rfl)).setCell (w.heap.size + 1) 1 (.slice A2 H.nulls.length c2) (.inl rfl))
        have HBF := hid (below_set (below_set HBW.out (w.heap.size + 1) 0 (.slice A7 m c7) (by omega)) (w.heap.size + 1) 1 (.slice A2 H.nulls.length c2) (by omega))
        have HRF := hid ((HRP8.out.set 0 (.slice A7 m c7)).set 1 (.slice A2 H.nulls.length c2))
        have hm2 : m = (rows + 63) / 64 := by rw [← HM.out]; exact HEB.out.1
        have hOT : w8.ownsRow w7.heap.size 40 1 (.slice A7 m c7) ((rows + 63) / 64) (u64s R) := by rw [← hm2]; exact HE1.out
        have hOU : w8.ownsRow w0.heap.size 40 1 (.slice A2 H.nulls.length c2) ((rows + 63) / 64) (u64s H.nulls) := by
          rw [← HBT.out.1]; exact HNU8.out
        have hT2 := owns_low (B' := w.heap.size) (owns_chg hOT HCF.out (by omega) (by omega)) (by omega)
        have hU2 := owns_low (B' := w.heap.size) (owns_chg hOU HCF.out (by omega) (by omega)) (by omega)
        refine bodyPost_ret (v := .tuple #[.agg #[.slice A7 m c7, .slice A2 H.nulls.length c2], .int .i64 0]) ?_ rfl (.inr (.inr ⟨H0.out, HOK.out, _, _, R, H.nulls, rfl, ?_, ?_, hT2, hU2, ?_, HBF.out⟩))
        · have y0 := HRF.out.cell 0
          have y1 := HRF.out.cell 1
          simp at y0 y1
          simp [results, Tryz.results30, go_sem, y0, y1]
        · refine ⟨HEB.out.1, HEB.out.2.1, fun i => ?_⟩
          rw [HEB.out.2.2]; unfold filT_I rowV_I vAt_I; rw [if_neg h9, HH.out, HO.out, HBSE.out, ← HLSE.out]; simp only [leafT_litsI]
        · refine ⟨HBT.out.1, HBT.out.2.1, fun i => ?_⟩
          rw [HBT.out.2.2]; unfold filU; rw [if_neg h9, HH.out]
        · intro k hk1 hk2
          have h1 := (HNU5.out.lt k hk2).2
          have h2 := (HE1.out.lt k hk1).1
          omega
end Go.Proofs.YthonbfojpbfmgaaGreatDoor

/- Package kernel: the hits of chunks that hold a list (of strings). -/
set_option linter.unusedVariables false
set_option linter.unusedSimpArgs false
set_option linter.unnecessarySimpa false
set_option maxRecDepth 100000
namespace Go.Proofs.YthonbfojpbfmgaaGreatDoor
open Go.RowKit

/-- a leaf's literals in memory -/
structure Lit_S (w : World) (op : Int) (lv : Value) (lits : List ByteArray) : Prop where
  rd : Rd w lv lits.length 1 (strs lits)
  ok : litsOk op lits.length
  up : op = 7 → ∀ a b, a < b → b < lits.length → ltS (lits.getD a ByteArray.empty) (lits.getD b ByteArray.empty) = true
  le : lits.length ≤ 1048576
theorem Lit_S.mono {w w' : World} {op : Int} {lv : Value} {lits : List ByteArray} (h : Lit_S w op lv lits) (hb : Below w.heap.size w w') : Lit_S w' op lv lits := ⟨h.rd.mono hb, h.ok, h.up, h.le⟩
theorem Lit_S.holds {w : World} {op : Int} {lv : Value} {lits : List ByteArray} (h : Lit_S w op lv lits) (v : ByteArray) :
    Calls Tryz.prog 149 #[.agg #[.int .i64 op, lv], .string v] w fun e w' => e = .returned (.bool (leafT op (lits.map pS) (pS v))) ∧ Below w.heap.size w w' :=
  holdsS_any op lits lv v w h.rd h.ok h.up h.le
theorem Rd.at_S {w : World} {D : Option Addr} {n m cd : Nat} {xs : List ByteArray} (h : Rd w (.slice D n cd) m 1 (lstS xs)) (h0 : 0 < m) : ∃ b o, D = some ⟨b, o, none⟩ ∧
    ∀ k, k < xs.length → w.cell? ⟨b, o + k, none⟩ = some (.string (xs.getD k default)) := Rd.atS h h0

set_option maxHeartbeats 8000000 in
theorem plainHits_S (w : World) (g : Nat) (rows : Int) (codec wd : Nat) (nulls : List Nat) (count : Nat) (list : List ByteArray) (ends : List Nat) (base : Int) (lanes : List Nat) (op : Int) (lits : List ByteArray) (lv : Value)
    (h : Ck_S w g rows codec wd nulls count list ends base lanes) (hcl : list.length = count) (hcn : count ≤ 65536) (hl : Lit_S w op lv lits) :
    Calls Tryz.prog 100 #[.pointer (some ⟨g, 0, none⟩), .agg #[.int .i64 op, lv]] w fun e w' => HitAns w w' e count (fun i => leafT op (lits.map pS) (pS (list.getD i default))) := by
  obtain ⟨A, c, rfl, _, _, _⟩ := hl.rd.form
  have HL := hid hl
  have HC := hid h
  obtain ⟨nu, v5, ev, nv, bef, hr, h2, h3, h4, h5, h6⟩ := h.ex
  obtain ⟨A5, c5, rfl, _, _, _⟩ := h3.form
  rw [hcl] at hr h3
  have HROW := hid hr
  have HLS := hid h3
  have HCL := hid hcl
  clear h2 h3 h4 h5 h6 hr h hl hcl
  have HB0 := hid ((brefl w).alloc (Nat.le_refl _) (.cells #[.int .i64 op, .slice A lits.length c] 106))
  have HRT : Hid (Row (w.alloc (.cells #[.int .i64 op, .slice A lits.length c] 106)) w.heap.size 106 [.int .i64 op, .slice A lits.length c]) := hid (by unfold Row; rw [heap_alloc_new])
  have HSZ : Hid ((w.alloc (.cells #[.int .i64 op, .slice A lits.length c] 106)).heap.size = w.heap.size + 1) := hid (by simp)
  have HR0 := hid (HROW.out.mono HB0.out)
  have HLS0 := hid (HLS.out.mono HB0.out)
  have HL0 := hid (HL.out.mono HB0.out)
  have HST := hid (BitsTo.start count (fun i => leafT op (lits.map pS) (pS (list.getD i default))))
  have HNB := hid (fun w2 => newBitmap_any count w2 (by omega))
  have HHO := hid (fun (w1 w2 : World) (v : ByteArray) (h1 : Below w.heap.size w w1) (h : Below w1.heap.size w1 w2) => ((HL.out.mono h1).mono h).holds v)
  obtain ⟨T, hT⟩ : ∃ T : ByteArray → Bool, ∀ v, leafT op (lits.map pS) (pS v) = T v := ⟨_, fun _ => rfl⟩
  simp only [hT] at HST HHO ⊢
  clear hT HL0 HL
  go_enter Tryz.func100, Tryz.ntmps100
  go_upto_region 1 with fail
  generalize w.alloc (.cells #[.int .i64 op, .slice A lits.length c] 106) = w0 at *
  have k4 : w0.cell? ⟨g, 0 + 4, none⟩ = some (.int .i64 count) := by rw [HR0.out.cell]; rfl
  have k5 : w0.cell? ⟨g, 0 + 5, none⟩ = some (.slice A5 count c5) := by rw [HR0.out.cell]; rfl
  go_upto_region 2 with (go_at_call 51; refine (HNB.out w0).mono ?_; rintro e w1 ⟨rfl, h1, h2, h3⟩; have HRW := hid h1; have HB1 := hid h2; have HZ1 := hid h3; clear h1 h2 h3)
  obtain ⟨q, hq⟩ : ∃ q, w0.heap.size = q := ⟨_, rfl⟩
  have HQ := hid hq
  rw [hq] at HRW HB1 HZ1 HSZ ⊢
  clear hq k4 k5
  obtain ⟨m, hm⟩ : ∃ m, (count + 63) / 64 = m := ⟨_, rfl⟩
  have HM := hid hm
  simp only [hm] at HRW HST ⊢
  clear hm HNB
  have HR1 := hid (HR0.out.below HB1.out (by rw [← HQ.out]; exact HR0.out.lt))
  have k5 : w1.cell? ⟨g, 0 + 5, none⟩ = some (.slice A5 count c5) := by rw [HR1.out.cell]; rfl
  go_wp2_with fail
  clear k5
  go_loopw [18] (fun i wr => ∃ j : Nat, j ≤ count ∧ i = .int .i64 j ∧ Hid (∃ zs, BitsTo count j (fun i => T (list.getD i default)) zs ∧ Row wr q 40 (u64s zs)) ∧ Hid (Below q w0 wr) ∧ Hid (q < wr.heap.size)) (fun i _ => count - (intOf i).toNat)
  case atStart => exact ⟨0, by omega, rfl, hid ⟨_, HST.out, HRW.out⟩, HB1, hid (by rw [HZ1.out]; omega)⟩
  case round =>
    obtain ⟨j, hj, rfl, HR, HB, HZ⟩ := hrel
    by_cases hlt : j < count
    · obtain ⟨zs, hz1, hz2⟩ := HR.out
      have HZA := hid hz1
      have HZR := hid hz2
      clear hz1 hz2 HR
      obtain ⟨b, o, rfl, hcells⟩ := (HLS0.out.mono (by rw [HQ.out]; exact HB.out)).at_S (by omega)
      have l0 := hcells j (by rw [HCL.out]; exact hlt)
      clear hcells
      have HRTw := hid (HRT.out.below HB.out (by have := HSZ.out; omega))
      obtain ⟨y0, y1⟩ := cellP HRTw.out
      have HHw := hid (fun (v : ByteArray) => HHO.out w0 wr v HB0.out (by rw [HQ.out]; exact HB.out))
      obtain ⟨x, hx⟩ : ∃ x, list.getD j default = x := ⟨_, rfl⟩
      rw [hx] at l0
      have HX := hid hx
      clear hx
      obtain ⟨tv, htv⟩ : ∃ tv, T x = tv := ⟨_, rfl⟩
      have HTV := hid htv
      have HHx := hid (HHw.out x)
      rw [htv] at HHx
      clear htv HHw
      cases tv
      · go_wp2_with (go_at_call 149; refine HHx.out.mono ?_; rintro e w5 ⟨rfl, hb5⟩; have HB5 := hid hb5; clear hb5 y0 y1 l0)
        go_roundw
        case rel =>
          refine ⟨j + 1, by omega, by go_num, hid ⟨zs, HZA.out.skip (by omega) (fun i h1 h2 => ?_), HZR.out.mono HB5.out⟩, hid (HB.out.trans (HB5.out.mono (Nat.le_of_lt HZ.out))), hid (Nat.lt_of_lt_of_le HZ.out HB5.out.size)⟩
          obtain rfl : i = j := by omega
          show T (list.getD i default) = false
          rw [HX.out]; exact HTV.out
        case measure => simp [intOf]; omega
      · go_wp2_with (first
          | (go_at_call 149; refine HHx.out.mono ?_; rintro e w5 ⟨rfl, hb5⟩; have HB5 := hid hb5; clear hb5 y0 y1 l0; have HSR := hid (setRange1_any q m count j zs w5 (HZR.out.mono HB5.out) HZA.out.1 HM.out hlt hcn HZA.out.2.1))
          | (go_at_call 150; refine HSR.out.mono ?_; rintro e w6 ⟨rfl, hw6⟩; have HW6 := hid hw6; clear hw6))
        go_roundw
        case rel =>
          obtain ⟨zs', hz1, hz2, hz3, hz4, hz5, hz6⟩ := HW6.out
          have hb6 : Below q w0 w5 := HB.out.trans (HB5.out.mono (Nat.le_of_lt HZ.out))
          have hq5 : q < w5.heap.size := Nat.lt_of_lt_of_le HZ.out HB5.out.size
          refine ⟨j + 1, by omega, by go_num, hid ⟨zs', HZA.out.set (by rw [hz1]; exact HM.out.symm) hz2 hz3 (by omega) (fun i h1 h2 => ?_), hz4⟩, hid (hz5.below hb6 (Nat.le_of_lt hq5) (Nat.le_refl _) (Nat.le_refl _)), hid (by rw [hz6]; exact hq5)⟩
          obtain rfl : i = j := by omega
          show T (list.getD i default) = true
          rw [HX.out]; exact HTV.out
        case measure => simp [intOf]; omega
    · obtain rfl : j = count := by omega
      obtain ⟨zs, hz1, hz2⟩ := HR.out
      have HZA := hid hz1
      have HZR := hid hz2
      clear hz1 hz2 HR
      go_wp2_with fail
      go_ret
      refine ⟨_, zs, rfl, HZA.out.full, ?_, HB0.out.trans (HB.out.mono (by rw [HSZ.out]; omega))⟩
      rw [HM.out]
      exact HZR.out.rd' (by simp [u64s]; rw [HZA.out.1]; exact HM.out) (by have := HM.out; unfold maxLen; omega)

set_option maxHeartbeats 8000000 in
theorem runHits_S (w : World) (g : Nat) (rows : Int) (codec wd : Nat) (nulls : List Nat) (count : Nat) (list : List ByteArray) (ends : List Nat) (base : Int) (lanes : List Nat) (op : Int) (lits : List ByteArray) (lv : Value)
    (h : Ck_S w g rows codec wd nulls count list ends base lanes) (hcl : list.length = ends.length) (hcn : count ≤ 65536) (hel : ends.length ≤ 65536) (hup : ∀ a b, a < b → b < ends.length → ends.getD a 0 < ends.getD b 0) (hlast : endB ends ends.length = count) (hl : Lit_S w op lv lits) :
    Calls Tryz.prog 101 #[.pointer (some ⟨g, 0, none⟩), .agg #[.int .i64 op, lv]] w fun e w' => HitAns w w' e count (fun i => leafT op (lits.map pS) (pS (list.getD (firstGe (nI ends) ((i : Int) + 1)) default))) := by
  obtain ⟨A, c, rfl, _, _, _⟩ := hl.rd.form
  have HL := hid hl
  have HC := hid h
  obtain ⟨nu, v5, v6, nv, bef, hr, h2, h3, h4, h5, h6⟩ := h.ex
  obtain ⟨A5, c5, rfl, _, _, _⟩ := h3.form
  obtain ⟨A6, c6, rfl, _, _, _⟩ := h4.form
  obtain ⟨n, hn⟩ : ∃ n, ends.length = n := ⟨_, rfl⟩
  rw [hn] at hcl hel hlast
  rw [hcl, hn] at hr
  rw [hcl] at h3
  rw [hn] at h4
  have HUP := hid hup
  have HROW := hid hr
  have HLS := hid h3
  have HES := hid h4
  have HCL := hid hcl
  have HN := hid hn
  have HLAST := hid hlast
  clear h2 h3 h4 h5 h6 hr h hl hcl hn hlast hup
  have HB0 := hid ((brefl w).alloc (Nat.le_refl _) (.cells #[.int .i64 op, .slice A lits.length c] 106))
  have HRT : Hid (Row (w.alloc (.cells #[.int .i64 op, .slice A lits.length c] 106)) w.heap.size 106 [.int .i64 op, .slice A lits.length c]) := hid (by unfold Row; rw [heap_alloc_new])
  have HSZ : Hid ((w.alloc (.cells #[.int .i64 op, .slice A lits.length c] 106)).heap.size = w.heap.size + 1) := hid (by simp)
  have HR0 := hid (HROW.out.mono HB0.out)
  have HLS0 := hid (HLS.out.mono HB0.out)
  have HES0 := hid (HES.out.mono HB0.out)
  have HST := hid (BitsTo.start count (fun i => leafT op (lits.map pS) (pS (list.getD (firstGe (nI ends) ((i : Int) + 1)) default))))
  have HNB := hid (fun w2 => newBitmap_any count w2 (by omega))
  have HHO := hid (fun (w1 w2 : World) (v : ByteArray) (h1 : Below w.heap.size w w1) (h : Below w1.heap.size w1 w2) => ((HL.out.mono h1).mono h).holds v)
  obtain ⟨T, hT⟩ : ∃ T : ByteArray → Bool, ∀ v, leafT op (lits.map pS) (pS v) = T v := ⟨_, fun _ => rfl⟩
  simp only [hT] at HST HHO ⊢
  clear hT HL
  go_enter Tryz.func101, Tryz.ntmps101
  go_upto_region 1 with fail
  generalize w.alloc (.cells #[.int .i64 op, .slice A lits.length c] 106) = w0 at *
  have k4 : w0.cell? ⟨g, 0 + 4, none⟩ = some (.int .i64 count) := by rw [HR0.out.cell]; rfl
  go_upto_region 2 with (go_at_call 51; refine (HNB.out w0).mono ?_; rintro e w1 ⟨rfl, h1, h2, h3⟩; have HRW := hid h1; have HB1 := hid h2; have HZ1 := hid h3; clear h1 h2 h3)
  obtain ⟨q, hq⟩ : ∃ q, w0.heap.size = q := ⟨_, rfl⟩
  have HQ := hid hq
  rw [hq] at HRW HB1 HZ1 HSZ ⊢
  clear hq k4
  obtain ⟨m, hm⟩ : ∃ m, (count + 63) / 64 = m := ⟨_, rfl⟩
  have HM := hid hm
  simp only [hm] at HRW HST ⊢
  clear hm HNB
  have HR1 := hid (HR0.out.below HB1.out (by rw [← HQ.out]; exact HR0.out.lt))
  have k6 : w1.cell? ⟨g, 0 + 6, none⟩ = some (.slice A6 n c6) := by rw [HR1.out.cell]; rfl
  go_wp2_with fail
  clear k6
  go_loopw [6, 19] (fun u i wr => ∃ t s : Nat, t ≤ n ∧ s = endB ends t ∧ s ≤ 65536 ∧ u = .int .i64 s ∧ i = .int .i64 t ∧ Hid (∃ zs, BitsTo count s (fun i => T (list.getD (firstGe (nI ends) ((i : Int) + 1)) default)) zs ∧ Row wr q 40 (u64s zs)) ∧ Hid (Below q w0 wr) ∧ Hid (q < wr.heap.size)) (fun _ i _ => n - (intOf i).toNat)
  case atStart => exact ⟨0, 0, by omega, rfl, by omega, rfl, rfl, hid ⟨_, HST.out, HRW.out⟩, HB1, hid (by rw [HZ1.out]; omega)⟩
  case round =>
    obtain ⟨t, s, ht, hs, hs6, rfl, rfl, HR, HB, HZ⟩ := hrel
    have HS := hid hs
    clear hs
    by_cases hlt : t < n
    · obtain ⟨zs, hz1, hz2⟩ := HR.out
      have HZA := hid hz1
      have HZR := hid hz2
      clear hz1 hz2 HR
      have hbw : Below w0.heap.size w0 wr := by rw [HQ.out]; exact HB.out
      obtain ⟨b, o, rfl, hcells⟩ := (HLS0.out.mono hbw).at_S (by omega)
      have l0 := hcells t (by rw [HCL.out]; exact hlt)
      clear hcells
      obtain ⟨b2, o2, rfl, hcells⟩ := (HES0.out.mono hbw).atI (by omega)
      have l1 := hcells t (by rw [nI_length, HN.out]; exact hlt)
      rw [nI_get ends t (by rw [HN.out]; exact hlt)] at l1
      clear hcells
      have HRTw := hid (HRT.out.below HB.out (by have := HSZ.out; omega))
      have HRw := hid (HR0.out.mono hbw)
      have k5 : wr.cell? ⟨g, 0 + 5, none⟩ = some (.slice (some ⟨b, o, none⟩) n c5) := by rw [HRw.out.cell]; rfl
      obtain ⟨y0, y1⟩ := cellP HRTw.out
      have HHw := hid (fun (w2 : World) (v : ByteArray) (h : Below wr.heap.size wr w2) => HHO.out w0 w2 v HB0.out (bthen hbw h))
      obtain ⟨x, hx⟩ : ∃ x, list.getD t default = x := ⟨_, rfl⟩
      rw [hx] at l0
      have HX := hid hx
      obtain ⟨en, hen⟩ : ∃ en, ends.getD t 0 = en := ⟨_, rfl⟩
      rw [hen] at l1
      have HEN := hid hen
      have hse : s ≤ en := by rw [HS.out, ← hen]; exact endB_le HUP.out (by rw [HN.out]; exact hlt)
      have hec : en ≤ count := by rw [← hen, ← HLAST.out]; exact end_le_last HUP.out (by rw [HN.out]; exact hlt) HN.out
      have HFG : Hid (∀ i : Nat, s ≤ i → i < en → firstGe (nI ends) ((i : Int) + 1) = t) := hid (fun i h1 h2 => firstGe_run HUP.out (by rw [HN.out]; exact hlt) (by rw [← HS.out]; exact h1) (by rw [hen]; exact h2))
      have HSn : Hid (en = endB ends (t + 1)) := hid (by rw [← hen]; unfold endB; rw [if_neg (by omega)]; rfl)
      clear hx hen hbw
      obtain ⟨tv, htv⟩ : ∃ tv, T x = tv := ⟨_, rfl⟩
      have HTV := hid htv
      have HHx := hid (fun (w2 : World) (h : Below wr.heap.size wr w2) => HHw.out w2 x h)
      rw [htv] at HHx
      clear htv HHw
      have HSRA := hid (fun (w5 : World) (hr : Row w5 q 40 (u64s zs)) => setRange_any q m m s en zs w5 hr (by rw [HZA.out.1]; exact HM.out) hse (by have := HM.out; omega) (by have := HM.out; omega) (Nat.le_refl _) HZA.out.2.1)
      have hgl : g < wr.heap.size := HRw.out.lt
      have hbl : b < wr.heap.size := World.block_lt_of_cell? wr _ l0
      have hpl : w.heap.size < wr.heap.size := HRTw.out.lt
      cases tv
      · go_upto_region 6 with fail
        go_region_held3 (fun w' => w'.cell? ⟨w.heap.size, 0, none⟩ = some (.int .i64 op) ∧ w'.cell? ⟨w.heap.size, 1, none⟩ = some (.slice A lits.length c) ∧ w'.cell? ⟨g, 0 + 5, none⟩ = some (.slice (some ⟨b, o, none⟩) n c5) ∧ w'.cell? ⟨b, o + t, none⟩ = some (.string x)) (go_keep)
          (first
            | (go_at_call 149; refine (HHx.out _ (bdrew (brefl wr) 1)).mono ?_; rintro e w5 ⟨rfl, hb5⟩; have HB5 := hid ((bdrew (brefl wr) 1).trans hb5); have m0 := (hb5.cell (p := ⟨w.heap.size, 0, none⟩) hpl).trans y0; have m1 := (hb5.cell (p := ⟨w.heap.size, 1, none⟩) hpl).trans y1; have m2 := (hb5.cell (p := ⟨g, 0 + 5, none⟩) hgl).trans k5; have m3 := (hb5.cell (p := ⟨b, o + t, none⟩) hbl).trans l0; clear hb5))
        go_wp2_with fail
        go_roundw
        case rel =>
          refine ⟨t + 1, en, by omega, HSn.out, by omega, rfl, by go_num, hid ⟨zs, HZA.out.skip hse (fun i h1 h2 => ?_), HZR.out.mono HB5.out⟩, hid (HB.out.trans (HB5.out.mono (Nat.le_of_lt HZ.out))), hid (Nat.lt_of_lt_of_le HZ.out HB5.out.size)⟩
          show T (list.getD (firstGe (nI ends) ((i : Int) + 1)) default) = false
          rw [HFG.out i h1 h2, HX.out]; exact HTV.out
        case measure => simp [intOf]; omega
      · go_upto_region 6 with fail
        go_region_held3 (fun w' => w'.cell? ⟨w.heap.size, 0, none⟩ = some (.int .i64 op) ∧ w'.cell? ⟨w.heap.size, 1, none⟩ = some (.slice A lits.length c) ∧ w'.cell? ⟨g, 0 + 5, none⟩ = some (.slice (some ⟨b, o, none⟩) n c5) ∧ w'.cell? ⟨b, o + t, none⟩ = some (.string x)) (go_keep)
          (first
            | (go_at_call 149; refine (HHx.out _ (bdrew (brefl wr) 1)).mono ?_; rintro e w5 ⟨rfl, hb5⟩; have HB5 := hid ((bdrew (brefl wr) 1).trans hb5); have m0 := (hb5.cell (p := ⟨w.heap.size, 0, none⟩) hpl).trans y0; have m1 := (hb5.cell (p := ⟨w.heap.size, 1, none⟩) hpl).trans y1; have m2 := (hb5.cell (p := ⟨g, 0 + 5, none⟩) hgl).trans k5; have m3 := (hb5.cell (p := ⟨b, o + t, none⟩) hbl).trans l0; clear hb5))
        have HSRx := hid (HSRA.out w5 (HZR.out.mono HB5.out))
        go_wp2_with (go_at_call 150; refine HSRx.out.mono ?_; rintro e w6 ⟨rfl, hw6⟩; have HW6 := hid hw6; clear hw6)
        go_roundw
        case rel =>
          obtain ⟨zs', hz1, hz2, hz3, hz4, hz5, hz6⟩ := HW6.out
          have hb6 : Below q w0 w5 := HB.out.trans (HB5.out.mono (Nat.le_of_lt HZ.out))
          have hq5 : q < w5.heap.size := Nat.lt_of_lt_of_le HZ.out HB5.out.size
          refine ⟨t + 1, en, by omega, HSn.out, by omega, rfl, by go_num, hid ⟨zs', HZA.out.set (by rw [hz1]; exact HM.out.symm) hz2 hz3 hse (fun i h1 h2 => ?_), hz4⟩, hid (hz5.below hb6 (Nat.le_of_lt hq5) (Nat.le_refl _) (Nat.le_refl _)), hid (by rw [hz6]; exact hq5)⟩
          show T (list.getD (firstGe (nI ends) ((i : Int) + 1)) default) = true
          rw [HFG.out i h1 h2, HX.out]; exact HTV.out
        case measure => simp [intOf]; omega
    · obtain rfl : t = n := by omega
      obtain ⟨zs, hz1, hz2⟩ := HR.out
      have HZA := hid hz1
      have HZR := hid hz2
      have hsc : s = count := by rw [HS.out, HLAST.out]
      clear hz1 hz2 HR
      go_wp2_with fail
      go_ret
      refine ⟨_, zs, rfl, ?_, ?_, HB0.out.trans (HB.out.mono (by rw [HSZ.out]; omega))⟩
      · have h1 := HZA.out
        rw [hsc] at h1; exact h1
      rw [HM.out]
      exact HZR.out.rd' (by simp [u64s]; rw [HZA.out.1]; exact HM.out) (by have := HM.out; unfold maxLen; omega)
end Go.Proofs.YthonbfojpbfmgaaGreatDoor

/- Package kernel: literals carried over into the domain of the lanes (strings). -/
set_option linter.unusedVariables false
set_option linter.unusedSimpArgs false
set_option linter.unnecessarySimpa false
set_option maxRecDepth 100000
namespace Go.Proofs.YthonbfojpbfmgaaGreatDoor
open Go.RowKit

/-- literals and codecs that come into question -/
def okL_S (x : ByteArray) : Prop := True
def cdL_S (cd : Nat) : Prop := cd = 2
def lnC_S (cd : Nat) (list : List ByteArray) (base : Int) (lit : ByteArray) : Nat := firstGeS list lit
def lnE_S (cd : Nat) (list : List ByteArray) (base : Int) (lit : ByteArray) : Bool := foundS list lit
theorem firstGeS_le' (es : List ByteArray) (t : ByteArray) : firstGeS es t ≤ es.length := List.findIdx_le_length
set_option maxHeartbeats 4000000 in
theorem laneOf_S (w : World) (g : Nat) (rows : Int) (codec wd : Nat) (nulls : List Nat) (count : Nat) (list : List ByteArray) (ends : List Nat) (base : Int) (lanes : List Nat) (lit : ByteArray)
    (h : Ck_S w g rows codec wd nulls count list ends base lanes) (hll : list.length ≤ 1048576) (hup : codec = 2 → ∀ a b, a < b → b < list.length → ltS (list.getD a ByteArray.empty) (list.getD b ByteArray.empty) = true) (hcd : cdL_S codec) (hb : okI base) (hlr : okL_S lit) :
    Calls Tryz.prog 191 #[.iface 66 (.agg #[]), .pointer (some ⟨g, 0, none⟩), .string lit] w fun e w' => e = .returned (.tuple #[.int .u64 (lnC_S codec list base lit), .bool (lnE_S codec list base lit)]) ∧ Below w.heap.size w w' := by
  obtain ⟨nu, v5, ev, nv, bef, hr, h2, h3, h4, h5, h6⟩ := h.ex
  have HUP := hid hup
  have HB64 := hid (fun hh w2 hb2 => BinarySearchSf_any v5 list lit w2 (h3.mono hb2) hll (hup hh))
  obtain ⟨A5, c5, rfl, _, _, _⟩ := h3.form
  have c1 : w.cell? ⟨g, 0 + 1, none⟩ = some (.int .i64 codec) := by rw [hr.cell]; rfl
  have c5' : w.cell? ⟨g, 0 + 5, none⟩ = some (.slice A5 list.length c5) := by rw [hr.cell]; rfl
  have c7 : w.cell? ⟨g, 0 + 7, none⟩ = some (.int .i64 base) := by rw [hr.cell]; rfl
  have HR := hid hr
  clear h2 h3 h4 h5 h6 hr h hup
  obtain rfl : codec = 2 := hcd
  have HBS := hid (HB64.out rfl w (brefl w))
  have hfl : firstGeS list lit ≤ list.length := firstGeS_le' list lit
  have e1 : lnC_S 2 list base lit = firstGeS list lit := rfl
  have e2 : lnE_S 2 list base lit = foundS list lit := rfl
  rw [e1, e2]
  clear HB64 c7 e1 e2
  generalize foundS list lit = fd at *
  generalize firstGeS list lit = r at *
  have hru : IntKind.u64.wrap (r : Int) = (r : Int) := by rw [IntKind.wrap_u64]; omega
  go_enter Tryz.func191, Tryz.ntmps191
  go_wp2_with (go_at_call 190; refine HBS.out.mono ?_; rintro e w1 ⟨rfl, nn, hw1⟩; have HB1 : Hid (Below w.heap.size w w1) := (hid (by rw [hw1]; exact bdrew (brefl w) nn)); clear hw1 c1 c5')
  go_ret2
  exact ⟨rfl, HB1.out⟩

set_option maxHeartbeats 8000000 in
theorem compareLanes_S (w : World) (g : Nat) (rows : Int) (codec wd : Nat) (nulls : List Nat) (count : Nat) (list : List ByteArray) (ends : List Nat) (base : Int) (lanes : List Nat) (op : Int) (lit : ByteArray)
    (h : Ck_S w g rows codec wd nulls count list ends base lanes) (hT : Tab w) (hll : list.length ≤ 1048576) (hup : codec = 2 → ∀ a b, a < b → b < list.length → ltS (list.getD a ByteArray.empty) (list.getD b ByteArray.empty) = true) (hcd : cdL_S codec) (hb : okI base) (hlr : okL_S lit)
    (ho : 1 ≤ op ∧ op ≤ 6) (hlv : ∀ x ∈ lanes, x < 18446744073709551616) (hlm : lanes.length ≤ 16777216) (hlc : lnC_S codec list base lit < 18446744073709551616) :
    Calls Tryz.prog 152 #[.iface 66 (.agg #[]), .pointer (some ⟨g, 0, none⟩), .int .i64 op, .string lit] w fun e w' =>
      ∃ r, e = .returned r ∧ w'.ownsRow w.heap.size 40 1 r (cmpR wd count (laO (lnE_S codec list base lit) op) lanes (laC (lnE_S codec list base lit) op (lnC_S codec list base lit))).length (u64s (cmpR wd count (laO (lnE_S codec list base lit) op) lanes (laC (lnE_S codec list base lit) op (lnC_S codec list base lit)))) ∧ Below w.heap.size w w' := by
  have HLN := hid (laneOf_S w g rows codec wd nulls count list ends base lanes lit h hll hup hcd hb hlr)
  obtain ⟨nu, v5, ev, v8, bef, hr, h2, h3, h4, h5, h6⟩ := h.ex
  have HT := hid hT
  have HTL := hid (fun (w2 : World) (h : Below w.heap.size w w2) => hT.mono h hT.lt)
  have HLV := hid hlv
  have hlm2 : lanes.length ≤ maxLen := by unfold maxLen; omega
  have HCM := hid (fun (w2 : World) (h : Below w.heap.size w w2) (op' : Int) (c' : Nat) (hc : c' < 18446744073709551616) => Compare_any v8 lanes wd count op' c' w2 (hT.mono h hT.lt) (h5.mono h) hlv hc hlm2)
  obtain ⟨A8, c8, rfl, _, _, _⟩ := h5.form
  have HR := hid hr
  clear hr h2 h3 h4 h5 h6 h hup hb hlr hlv hT
  obtain ⟨E, hE⟩ : ∃ E, lnE_S codec list base lit = E := ⟨_, rfl⟩
  rw [hE] at HLN ⊢
  generalize lnC_S codec list base lit = C at *
  clear hE
  have hgl : g < w.heap.size := HR.out.lt
  cases E
  · have HBE := hid (fun w2 => besides_any op C w2 ho)
    have hcl := Nat.lt_of_le_of_lt (laC_le false op C) hlc
    have e1 : laO false op = besO op := rfl
    have e2 : laC false op C = besC op C := rfl
    rw [e2] at hcl
    rw [e1, e2]
    clear e1 e2
    generalize besO op = op' at *
    generalize besC op C = C' at *
    have HCMx := hid (fun (w2 : World) (h : Below w.heap.size w w2) => HCM.out w2 h op' C' hcl)
    clear HCM
    generalize cmpR wd count op' lanes C' = R at *
    generalize cmpOk wd count op' lanes = OK at *
    go_enter Tryz.func152, Tryz.ntmps152
    go_upto_region 4 with (first
      | (go_at_call 191; refine HLN.out.mono ?_; rintro e w1 ⟨rfl, hb1⟩; have HB1 := hid hb1; clear hb1)
      | (go_at_call 192; refine (HBE.out w1).mono ?_; rintro e w2 ⟨rfl, rfl⟩))
    have HR1 := hid (HR.out.mono HB1.out)
    have k8 : w2.cell? ⟨g, 0 + 8, none⟩ = some (.slice A8 lanes.length c8) := by rw [HR1.out.cell]; rfl
    have k2 : w2.cell? ⟨g, 0 + 2, none⟩ = some (.int .i64 wd) := by rw [HR1.out.cell]; rfl
    have k4 : w2.cell? ⟨g, 0 + 4, none⟩ = some (.int .i64 count) := by rw [HR1.out.cell]; rfl
    have hg1 : g < w2.heap.size := HR1.out.lt
    go_region_held3 (fun w' => w'.cell? ⟨g, 0 + 8, none⟩ = some (.slice A8 lanes.length c8) ∧ w'.cell? ⟨g, 0 + 2, none⟩ = some (.int .i64 wd) ∧ w'.cell? ⟨g, 0 + 4, none⟩ = some (.int .i64 count)) (go_keep)
      (first
        | (go_at_call 52; refine (HCMx.out _ (bdrew HB1.out 1)).mono ?_; rintro e w5 ⟨r, rfl, ho5, hb5⟩; have HO5 := hid ho5; have HB5 := hid ((bdrew (brefl w2) 1).trans hb5); have m0 := (hb5.cell (p := ⟨g, 0 + 8, none⟩) hg1).trans k8; have m1 := (hb5.cell (p := ⟨g, 0 + 2, none⟩) hg1).trans k2; have m2 := (hb5.cell (p := ⟨g, 0 + 4, none⟩) hg1).trans k4; clear hb5 ho5))
    all_goals go_wp2_with fail
    all_goals go_ret
    all_goals exact ⟨r, rfl, owns_low HO5.out HB1.out.size, bthen HB1.out HB5.out⟩
  · have hcl := Nat.lt_of_le_of_lt (laC_le true op C) hlc
    have e1 : laO true op = op := rfl
    have e2 : laC true op C = C := rfl
    rw [e2] at hcl
    rw [e1, e2]
    clear e1 e2
    have HCMx := hid (fun (w2 : World) (h : Below w.heap.size w w2) => HCM.out w2 h op C hcl)
    clear HCM
    generalize cmpR wd count op lanes C = R at *
    generalize cmpOk wd count op lanes = OK at *
    go_enter Tryz.func152, Tryz.ntmps152
    go_upto_region 4 with (first
      | (go_at_call 191; refine HLN.out.mono ?_; rintro e w1 ⟨rfl, hb1⟩; have HB1 := hid hb1; clear hb1))
    have HR1 := hid (HR.out.mono HB1.out)
    have k8 : w1.cell? ⟨g, 0 + 8, none⟩ = some (.slice A8 lanes.length c8) := by rw [HR1.out.cell]; rfl
    have k2 : w1.cell? ⟨g, 0 + 2, none⟩ = some (.int .i64 wd) := by rw [HR1.out.cell]; rfl
    have k4 : w1.cell? ⟨g, 0 + 4, none⟩ = some (.int .i64 count) := by rw [HR1.out.cell]; rfl
    have hg1 : g < w1.heap.size := HR1.out.lt
    go_region_held3 (fun w' => w'.cell? ⟨g, 0 + 8, none⟩ = some (.slice A8 lanes.length c8) ∧ w'.cell? ⟨g, 0 + 2, none⟩ = some (.int .i64 wd) ∧ w'.cell? ⟨g, 0 + 4, none⟩ = some (.int .i64 count)) (go_keep)
      (first
        | (go_at_call 52; refine (HCMx.out _ (bdrew HB1.out 1)).mono ?_; rintro e w5 ⟨r, rfl, ho5, hb5⟩; have HO5 := hid ho5; have HB5 := hid ((bdrew (brefl w1) 1).trans hb5); have m0 := (hb5.cell (p := ⟨g, 0 + 8, none⟩) hg1).trans k8; have m1 := (hb5.cell (p := ⟨g, 0 + 2, none⟩) hg1).trans k2; have m2 := (hb5.cell (p := ⟨g, 0 + 4, none⟩) hg1).trans k4; clear hb5 ho5))
    all_goals go_wp2_with fail
    all_goals go_ret
    all_goals exact ⟨r, rfl, owns_low HO5.out HB1.out.size, bthen HB1.out HB5.out⟩
end Go.Proofs.YthonbfojpbfmgaaGreatDoor
