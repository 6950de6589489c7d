/- The plain answer: the smallest and the greatest of values. -/
import Derived.Test.YthonbfojpbfmgaaGreatDoorLawfolduptoB16
import Derived.Deep.RegionWith
import Derived.Lib.SlicesCompact
import Derived.Sort.Walk0
set_option linter.unusedVariables false
set_option linter.unusedSimpArgs false
set_option linter.unnecessarySimpa false
set_option maxRecDepth 100000
namespace Go.Proofs.YthonbfojpbfmgaaGreatDoor
open Go.RowKit

def zeroP : PV := (0, ByteArray.empty)
def minP : List PV → PV
  | [] => zeroP
  | v :: r => r.foldl (fun m x => if ordP x m < 0 then x else m) v
def maxP : List PV → PV
  | [] => zeroP
  | v :: r => r.foldl (fun m x => if 0 < ordP x m then x else m) v
theorem minP_snoc (vs : List PV) (v : PV) : minP (vs ++ [v]) = if vs = [] ∨ ordP v (minP vs) < 0 then v else minP vs := by
  cases vs with
  | nil => simp [minP]
  | cons a r => simp [minP]
theorem maxP_snoc (vs : List PV) (v : PV) : maxP (vs ++ [v]) = if vs = [] ∨ 0 < ordP v (maxP vs) then v else maxP vs := by
  cases vs with
  | nil => simp [maxP]
  | cons a r => simp [maxP]
/-- a value as a cell, in memory -/
def pvc (v : PV) : List Value := [.bool false, .int .i64 v.1, .string v.2]
def pva (v : PV) : Value := .agg #[.bool false, .int .i64 v.1, .string v.2]
structure ExS (w0 : World) (s : Nat) (w : World) (m M : PV) : Prop where
  r0 : Row w s 42 (pvc zeroP)
  r1 : Row w (s + 1) 42 (pvc zeroP)
  r2 : Row w (s + 1 + 1) 42 (pvc m)
  r3 : Row w (s + 1 + 1 + 1) 42 (pvc M)
  bl : Below s w0 w
  sz : s + 4 ≤ w.heap.size
theorem ExS.step {w0 : World} {s : Nat} {w w' : World} {m M : PV} (h : ExS w0 s w m M) (hb : Below w.heap.size w w') : ExS w0 s w' m M :=
  ⟨h.r0.mono hb, h.r1.mono hb, h.r2.mono hb, h.r3.mono hb, Below.trans h.bl (hb.mono (by have := h.sz; omega)), Nat.le_trans h.sz hb.size⟩
theorem setc3_size (w : World) (p : Nat) (cs : List Value) : (setc3 w p cs).heap.size = w.heap.size := by simp [setc3, World.setCell]
theorem setc3_other {w : World} {g p : Nat} {e : TypeId} {cs : List Value} (h : Row w g e cs) (ds : List Value) (hne : g ≠ p) : Row (setc3 w p ds) g e cs := by
  unfold setc3
  exact ((h.other (a := ⟨p, 0, none⟩) _ hne).other (a := ⟨p, 1, none⟩) _ hne).other (a := ⟨p, 2, none⟩) _ hne
theorem ExS.setm {w0 : World} {s : Nat} {w : World} {m M : PV} (h : ExS w0 s w m M) (v : PV) : ExS w0 s (setc3 w (s + 1 + 1) (pvc v)) v M :=
  ⟨setc3_other h.r0 _ (by omega), setc3_other h.r1 _ (by omega), row_setc3 h.r2 _ _ _, setc3_other h.r3 _ (by omega), below_setc3 h.bl _ (by omega) _, by rw [setc3_size]; exact h.sz⟩
theorem ExS.setM {w0 : World} {s : Nat} {w : World} {m M : PV} (h : ExS w0 s w m M) (v : PV) : ExS w0 s (setc3 w (s + 1 + 1 + 1) (pvc v)) m v :=
  ⟨setc3_other h.r0 _ (by omega), setc3_other h.r1 _ (by omega), setc3_other h.r2 _ (by omega), row_setc3 h.r3 _ _ _, below_setc3 h.bl _ (by omega) _, by rw [setc3_size]; exact h.sz⟩
theorem ex_start (w : World) : ExS w w.heap.size ((((w.alloc (.cells #[.bool false, .int .i64 0, .string ByteArray.empty] 42)).alloc (.cells #[.bool false, .int .i64 0, .string ByteArray.empty] 42)).alloc (.cells #[.bool false, .int .i64 0, .string ByteArray.empty] 42)).alloc (.cells #[.bool false, .int .i64 0, .string ByteArray.empty] 42)) zeroP zeroP := by
  have hr : ∀ w2 : World, Row (w2.alloc (.cells #[.bool false, .int .i64 0, .string ByteArray.empty] 42)) w2.heap.size 42 (pvc zeroP) := fun w2 => by unfold Row; rw [heap_alloc_new]; rfl
  have hb : ∀ w2 : World, Below w2.heap.size w2 (w2.alloc (.cells #[.bool false, .int .i64 0, .string ByteArray.empty] 42)) := fun w2 => (brefl w2).alloc (Nat.le_refl _) _
  refine ⟨(((hr w).mono (hb _)).mono (hb _)).mono (hb _), ?_, ?_, ?_, ?_, by simp⟩
  · have h := (((hr (w.alloc (.cells #[.bool false, .int .i64 0, .string ByteArray.empty] 42))).mono (hb _)).mono (hb _))
    simpa using h
  · have h := (hr ((w.alloc (.cells #[.bool false, .int .i64 0, .string ByteArray.empty] 42)).alloc (.cells #[.bool false, .int .i64 0, .string ByteArray.empty] 42))).mono (hb _)
    simpa using h
  · have h := hr (((w.alloc (.cells #[.bool false, .int .i64 0, .string ByteArray.empty] 42)).alloc (.cells #[.bool false, .int .i64 0, .string ByteArray.empty] 42)).alloc (.cells #[.bool false, .int .i64 0, .string ByteArray.empty] 42))
    simpa using h
  · exact bthen (bthen (bthen (hb w) (hb _)) (hb _)) (hb _)

set_option maxHeartbeats 8000000 in
theorem extremes_any (u : Value) (vs : List PV) (w : World) (hu : Rd w u vs.length 3 (cellsP vs)) (hl : vs.length ≤ 1048576) :
    Calls Tryz.prog 72 #[u] w fun e w' => e = .returned (.tuple #[pva (minP vs), pva (maxP vs)]) ∧ Below w.heap.size w w' := by
  have HU := hid hu
  obtain ⟨A1, c1, rfl, _, _, _⟩ := hu.form
  obtain ⟨m9, hm9⟩ : ∃ m9, minP vs = m9 := ⟨_, rfl⟩
  obtain ⟨M9, hM9⟩ : ∃ M9, maxP vs = M9 := ⟨_, rfl⟩
  have HM9 := hid (And.intro hm9 hM9)
  rw [hm9, hM9]
  have HST := hid (ex_start w)
  clear hu hm9 hM9
  go_enter Tryz.func72, Tryz.ntmps72
  go_wp2_with fail
  have HU1 := hid (fun (w2 : World) (h : Below w.heap.size w w2) => HU.out.mono h)
  obtain ⟨s, hs⟩ : ∃ s, w.heap.size = s := ⟨_, rfl⟩
  have HSE := hid hs
  rw [hs] at HST HU1
  simp only [hs]
  clear hs HU
  go_loopw [10] (fun i wr => ∃ t : Nat, t ≤ vs.length ∧ i = .int .i64 t ∧ Hid (ExS w s wr (minP (vs.take t)) (maxP (vs.take t)))) (fun i _ => vs.length - (intOf i).toNat)
  case atStart => exact ⟨0, by omega, rfl, hid HST.out⟩
  case round =>
    obtain ⟨t, ht, rfl, HS⟩ := hrel
    by_cases hlt : t < vs.length
    · obtain ⟨b, o, rfl, hcells⟩ := (HU1.out wr HS.out.bl).atP (by omega)
      obtain ⟨l0, l1, l2⟩ := hcells t hlt
      have HM := hid (minP_snoc (vs.take t) (vs.getD t dfP))
      have HX := hid (maxP_snoc (vs.take t) (vs.getD t dfP))
      rw [← take_snoc vs dfP t hlt] at HM HX
      have hnil : (vs.take t = []) = (t = 0) := by
        rw [List.take_eq_nil_iff]
        have : vs ≠ [] := fun h => by rw [h] at hlt; simp at hlt
        simp [this]
      simp only [hnil] at HM HX
      have HO1 := hid (fun (w2 : World) => order_any (vs.getD t dfP) (minP (vs.take t)) w2)
      have HO2 := hid (fun (w2 : World) => order_any (vs.getD t dfP) (maxP (vs.take t)) w2)
      clear hcells hnil
      generalize minP (vs.take t) = m at *
      generalize maxP (vs.take t) = M at *
      generalize vs.getD t dfP = X at *
      obtain ⟨xi, xs'⟩ := X
      obtain ⟨mi, ms⟩ := m
      obtain ⟨Mi, Ms⟩ := M
      simp only at l1 l2 HO1 HO2
      generalize ordP (xi, xs') (mi, ms) = om at *
      generalize ordP (xi, xs') (Mi, Ms) = oM at *
      have HBA := hid ((brefl wr).alloc (Nat.le_refl _) (.cells #[.bool false, .int .i64 xi, .string xs'] 42))
      have HRW : Hid (Row (wr.alloc (.cells #[.bool false, .int .i64 xi, .string xs'] 42)) wr.heap.size 42 [.bool false, .int .i64 xi, .string xs']) := hid (by unfold Row; rw [heap_alloc_new])
      have HS4 := hid (HS.out.step HBA.out)
      have HQ := hid HS.out.sz
      go_upto_region 5 with fail
      generalize wr.alloc (.cells #[.bool false, .int .i64 xi, .string xs'] 42) = w4 at *
      obtain ⟨q, hq⟩ : ∃ q, wr.heap.size = q := ⟨_, rfl⟩
      rw [hq] at HRW HQ ⊢
      clear hq HBA l0 l1 l2
      have hq2 : q ≠ s + 1 + 1 := by have := HQ.out; omega
      have hq3 : q ≠ s + 1 + 1 + 1 := by have := HQ.out; omega
      have k0 : w4.cell? ⟨q, 0, none⟩ = some (.bool false) := by rw [HRW.out.cell]; rfl
      have k1 : w4.cell? ⟨q, 1, none⟩ = some (.int .i64 xi) := by rw [HRW.out.cell]; rfl
      have k2 : w4.cell? ⟨q, 2, none⟩ = some (.string xs') := by rw [HRW.out.cell]; rfl
      rcases Nat.eq_zero_or_pos t with ht0 | ht0
      · subst ht0
        have m0 : w4.cell? ⟨s + 1 + 1, 0, none⟩ = some (.bool false) := by rw [HS4.out.r2.cell]; rfl
        have m1 : w4.cell? ⟨s + 1 + 1, 1, none⟩ = some (.int .i64 mi) := by rw [HS4.out.r2.cell]; rfl
        have m2 : w4.cell? ⟨s + 1 + 1, 2, none⟩ = some (.string ms) := by rw [HS4.out.r2.cell]; rfl
        have f0 : w4.frozen? ⟨s + 1 + 1, 0, none⟩ = false := HS4.out.r2.frozen 0
        have f1 : w4.frozen? ⟨s + 1 + 1, 1, none⟩ = false := HS4.out.r2.frozen 1
        have f2 : w4.frozen? ⟨s + 1 + 1, 2, none⟩ = false := HS4.out.r2.frozen 2
        go_upto_region 7 with fail
        change Code.wp _ _ _ _ (setc3 w4 (s + 1 + 1) (pvc (xi, xs')))
        have HS5 := hid (HS4.out.setm (xi, xs'))
        have HKw5 := hid (show (setc3 w4 (s + 1 + 1) (pvc (xi, xs'))).cell? ⟨q, 0, none⟩ = some (.bool false) ∧ (setc3 w4 (s + 1 + 1) (pvc (xi, xs'))).cell? ⟨q, 1, none⟩ = some (.int .i64 xi) ∧ (setc3 w4 (s + 1 + 1) (pvc (xi, xs'))).cell? ⟨q, 2, none⟩ = some (.string xs') from ⟨(cell_set3 _ _ _ _ _ _ _ hq2).trans k0, (cell_set3 _ _ _ _ _ _ _ hq2).trans k1, (cell_set3 _ _ _ _ _ _ _ hq2).trans k2⟩)
        clear m0 m1 m2 f0 f1 f2 k0 k1 k2
        generalize setc3 w4 (s + 1 + 1) (pvc (xi, xs')) = w5 at *
        obtain ⟨k0, k1, k2⟩ := HKw5.out
        have m0 : w5.cell? ⟨s + 1 + 1 + 1, 0, none⟩ = some (.bool false) := by rw [HS5.out.r3.cell]; rfl
        have m1 : w5.cell? ⟨s + 1 + 1 + 1, 1, none⟩ = some (.int .i64 Mi) := by rw [HS5.out.r3.cell]; rfl
        have m2 : w5.cell? ⟨s + 1 + 1 + 1, 2, none⟩ = some (.string Ms) := by rw [HS5.out.r3.cell]; rfl
        have f0 : w5.frozen? ⟨s + 1 + 1 + 1, 0, none⟩ = false := HS5.out.r3.frozen 0
        have f1 : w5.frozen? ⟨s + 1 + 1 + 1, 1, none⟩ = false := HS5.out.r3.frozen 1
        have f2 : w5.frozen? ⟨s + 1 + 1 + 1, 2, none⟩ = false := HS5.out.r3.frozen 2
        go_upto_region 9 with fail
        change Code.wp _ _ _ _ (setc3 w5 (s + 1 + 1 + 1) (pvc (xi, xs')))
        have HS6 := hid (HS5.out.setM (xi, xs'))
        have HKw6 := hid (show (setc3 w5 (s + 1 + 1 + 1) (pvc (xi, xs'))).cell? ⟨q, 0, none⟩ = some (.bool false) ∧ (setc3 w5 (s + 1 + 1 + 1) (pvc (xi, xs'))).cell? ⟨q, 1, none⟩ = some (.int .i64 xi) ∧ (setc3 w5 (s + 1 + 1 + 1) (pvc (xi, xs'))).cell? ⟨q, 2, none⟩ = some (.string xs') from ⟨(cell_set3 _ _ _ _ _ _ _ hq3).trans k0, (cell_set3 _ _ _ _ _ _ _ hq3).trans k1, (cell_set3 _ _ _ _ _ _ _ hq3).trans k2⟩)
        clear m0 m1 m2 f0 f1 f2 k0 k1 k2
        generalize setc3 w5 (s + 1 + 1 + 1) (pvc (xi, xs')) = w6 at *
        obtain ⟨k0, k1, k2⟩ := HKw6.out
        go_wp2_with fail
        go_roundw
        case rel => exact ⟨0 + 1, by omega, by go_num, hid (by rw [HM.out, HX.out, if_pos (.inl rfl), if_pos (.inl rfl)]; exact HS6.out)⟩
        case measure => simp [intOf]; omega
      · have i0 : ((t : Int) == 0) = false := by simp; omega
        have n0 : ¬ t = 0 := by omega
        have m0 : w4.cell? ⟨s + 1 + 1, 0, none⟩ = some (.bool false) := by rw [HS4.out.r2.cell]; rfl
        have m1 : w4.cell? ⟨s + 1 + 1, 1, none⟩ = some (.int .i64 mi) := by rw [HS4.out.r2.cell]; rfl
        have m2 : w4.cell? ⟨s + 1 + 1, 2, none⟩ = some (.string ms) := by rw [HS4.out.r2.cell]; rfl
        have hqw : q < w4.heap.size := World.block_lt_of_cell? w4 _ k0
        by_cases hom : om < 0
        · go_upto_region 6 with (go_at_call 64; refine (HO1.out _).mono ?_; rintro e w5 ⟨rfl, hb5⟩; have HB5 := hid hb5; clear hb5)
          have HS5 := hid (HS4.out.step HB5.out)
          have j0 := (HB5.out.cell (p := ⟨q, 0, none⟩) hqw).trans k0
          have j1 := (HB5.out.cell (p := ⟨q, 1, none⟩) hqw).trans k1
          have j2 := (HB5.out.cell (p := ⟨q, 2, none⟩) hqw).trans k2
          clear m0 m1 m2 k0 k1 k2
          have k0 := j0
          have k1 := j1
          have k2 := j2
          clear j0 j1 j2 hqw
          have m0 : w5.cell? ⟨s + 1 + 1, 0, none⟩ = some (.bool false) := by rw [HS5.out.r2.cell]; rfl
          have m1 : w5.cell? ⟨s + 1 + 1, 1, none⟩ = some (.int .i64 mi) := by rw [HS5.out.r2.cell]; rfl
          have m2 : w5.cell? ⟨s + 1 + 1, 2, none⟩ = some (.string ms) := by rw [HS5.out.r2.cell]; rfl
          have f0 : w5.frozen? ⟨s + 1 + 1, 0, none⟩ = false := HS5.out.r2.frozen 0
          have f1 : w5.frozen? ⟨s + 1 + 1, 1, none⟩ = false := HS5.out.r2.frozen 1
          have f2 : w5.frozen? ⟨s + 1 + 1, 2, none⟩ = false := HS5.out.r2.frozen 2
          go_upto_region 7 with fail
          change Code.wp _ _ _ _ (setc3 w5 (s + 1 + 1) (pvc (xi, xs')))
          have HS6 := hid (HS5.out.setm (xi, xs'))
          have HKw6 := hid (show (setc3 w5 (s + 1 + 1) (pvc (xi, xs'))).cell? ⟨q, 0, none⟩ = some (.bool false) ∧ (setc3 w5 (s + 1 + 1) (pvc (xi, xs'))).cell? ⟨q, 1, none⟩ = some (.int .i64 xi) ∧ (setc3 w5 (s + 1 + 1) (pvc (xi, xs'))).cell? ⟨q, 2, none⟩ = some (.string xs') from ⟨(cell_set3 _ _ _ _ _ _ _ hq2).trans k0, (cell_set3 _ _ _ _ _ _ _ hq2).trans k1, (cell_set3 _ _ _ _ _ _ _ hq2).trans k2⟩)
          clear m0 m1 m2 f0 f1 f2 k0 k1 k2
          generalize setc3 w5 (s + 1 + 1) (pvc (xi, xs')) = w6 at *
          obtain ⟨k0, k1, k2⟩ := HKw6.out
          have m0 : w6.cell? ⟨s + 1 + 1 + 1, 0, none⟩ = some (.bool false) := by rw [HS6.out.r3.cell]; rfl
          have m1 : w6.cell? ⟨s + 1 + 1 + 1, 1, none⟩ = some (.int .i64 Mi) := by rw [HS6.out.r3.cell]; rfl
          have m2 : w6.cell? ⟨s + 1 + 1 + 1, 2, none⟩ = some (.string Ms) := by rw [HS6.out.r3.cell]; rfl
          have hqw : q < w6.heap.size := World.block_lt_of_cell? w6 _ k0
          by_cases hoM : 0 < oM
          · have i2 : oM > 0 := hoM
            go_upto_region 8 with (go_at_call 64; refine (HO2.out _).mono ?_; rintro e w7 ⟨rfl, hb7⟩; have HB7 := hid hb7; clear hb7)
            have HS7 := hid (HS6.out.step HB7.out)
            have j0 := (HB7.out.cell (p := ⟨q, 0, none⟩) hqw).trans k0
            have j1 := (HB7.out.cell (p := ⟨q, 1, none⟩) hqw).trans k1
            have j2 := (HB7.out.cell (p := ⟨q, 2, none⟩) hqw).trans k2
            clear m0 m1 m2 k0 k1 k2
            have k0 := j0
            have k1 := j1
            have k2 := j2
            clear j0 j1 j2 hqw
            have m0 : w7.cell? ⟨s + 1 + 1 + 1, 0, none⟩ = some (.bool false) := by rw [HS7.out.r3.cell]; rfl
            have m1 : w7.cell? ⟨s + 1 + 1 + 1, 1, none⟩ = some (.int .i64 Mi) := by rw [HS7.out.r3.cell]; rfl
            have m2 : w7.cell? ⟨s + 1 + 1 + 1, 2, none⟩ = some (.string Ms) := by rw [HS7.out.r3.cell]; rfl
            have f0 : w7.frozen? ⟨s + 1 + 1 + 1, 0, none⟩ = false := HS7.out.r3.frozen 0
            have f1 : w7.frozen? ⟨s + 1 + 1 + 1, 1, none⟩ = false := HS7.out.r3.frozen 1
            have f2 : w7.frozen? ⟨s + 1 + 1 + 1, 2, none⟩ = false := HS7.out.r3.frozen 2
            go_upto_region 9 with fail
            change Code.wp _ _ _ _ (setc3 w7 (s + 1 + 1 + 1) (pvc (xi, xs')))
            have HS8 := hid (HS7.out.setM (xi, xs'))
            have HKw8 := hid (show (setc3 w7 (s + 1 + 1 + 1) (pvc (xi, xs'))).cell? ⟨q, 0, none⟩ = some (.bool false) ∧ (setc3 w7 (s + 1 + 1 + 1) (pvc (xi, xs'))).cell? ⟨q, 1, none⟩ = some (.int .i64 xi) ∧ (setc3 w7 (s + 1 + 1 + 1) (pvc (xi, xs'))).cell? ⟨q, 2, none⟩ = some (.string xs') from ⟨(cell_set3 _ _ _ _ _ _ _ hq3).trans k0, (cell_set3 _ _ _ _ _ _ _ hq3).trans k1, (cell_set3 _ _ _ _ _ _ _ hq3).trans k2⟩)
            clear m0 m1 m2 f0 f1 f2 k0 k1 k2
            generalize setc3 w7 (s + 1 + 1 + 1) (pvc (xi, xs')) = w8 at *
            obtain ⟨k0, k1, k2⟩ := HKw8.out
            go_wp2_with fail
            go_roundw
            case rel => exact ⟨t + 1, by omega, by go_num, hid (by rw [HM.out, HX.out, if_pos (.inr hom), if_pos (.inr hoM)]; exact HS8.out)⟩
            case measure => simp [intOf]; omega
          · have i2 : ¬ oM > 0 := hoM
            go_upto_region 9 with (go_at_call 64; refine (HO2.out _).mono ?_; rintro e w7 ⟨rfl, hb7⟩; have HB7 := hid hb7; clear hb7)
            have HS7 := hid (HS6.out.step HB7.out)
            have j0 := (HB7.out.cell (p := ⟨q, 0, none⟩) hqw).trans k0
            have j1 := (HB7.out.cell (p := ⟨q, 1, none⟩) hqw).trans k1
            have j2 := (HB7.out.cell (p := ⟨q, 2, none⟩) hqw).trans k2
            clear m0 m1 m2 k0 k1 k2
            have k0 := j0
            have k1 := j1
            have k2 := j2
            clear j0 j1 j2 hqw
            go_wp2_with fail
            go_roundw
            case rel => exact ⟨t + 1, by omega, by go_num, hid (by rw [HM.out, HX.out, if_pos (.inr hom), if_neg (by rintro (h | h) <;> omega)]; exact HS7.out)⟩
            case measure => simp [intOf]; omega
        · go_upto_region 7 with (go_at_call 64; refine (HO1.out _).mono ?_; rintro e w5 ⟨rfl, hb5⟩; have HB5 := hid hb5; clear hb5)
          have HS5 := hid (HS4.out.step HB5.out)
          have j0 := (HB5.out.cell (p := ⟨q, 0, none⟩) hqw).trans k0
          have j1 := (HB5.out.cell (p := ⟨q, 1, none⟩) hqw).trans k1
          have j2 := (HB5.out.cell (p := ⟨q, 2, none⟩) hqw).trans k2
          clear m0 m1 m2 k0 k1 k2
          have k0 := j0
          have k1 := j1
          have k2 := j2
          clear j0 j1 j2 hqw
          have m0 : w5.cell? ⟨s + 1 + 1 + 1, 0, none⟩ = some (.bool false) := by rw [HS5.out.r3.cell]; rfl
          have m1 : w5.cell? ⟨s + 1 + 1 + 1, 1, none⟩ = some (.int .i64 Mi) := by rw [HS5.out.r3.cell]; rfl
          have m2 : w5.cell? ⟨s + 1 + 1 + 1, 2, none⟩ = some (.string Ms) := by rw [HS5.out.r3.cell]; rfl
          have hqw : q < w5.heap.size := World.block_lt_of_cell? w5 _ k0
          by_cases hoM : 0 < oM
          · have i2 : oM > 0 := hoM
            go_upto_region 8 with (go_at_call 64; refine (HO2.out _).mono ?_; rintro e w7 ⟨rfl, hb7⟩; have HB7 := hid hb7; clear hb7)
            have HS7 := hid (HS5.out.step HB7.out)
            have j0 := (HB7.out.cell (p := ⟨q, 0, none⟩) hqw).trans k0
            have j1 := (HB7.out.cell (p := ⟨q, 1, none⟩) hqw).trans k1
            have j2 := (HB7.out.cell (p := ⟨q, 2, none⟩) hqw).trans k2
            clear m0 m1 m2 k0 k1 k2
            have k0 := j0
            have k1 := j1
            have k2 := j2
            clear j0 j1 j2 hqw
            have m0 : w7.cell? ⟨s + 1 + 1 + 1, 0, none⟩ = some (.bool false) := by rw [HS7.out.r3.cell]; rfl
            have m1 : w7.cell? ⟨s + 1 + 1 + 1, 1, none⟩ = some (.int .i64 Mi) := by rw [HS7.out.r3.cell]; rfl
            have m2 : w7.cell? ⟨s + 1 + 1 + 1, 2, none⟩ = some (.string Ms) := by rw [HS7.out.r3.cell]; rfl
            have f0 : w7.frozen? ⟨s + 1 + 1 + 1, 0, none⟩ = false := HS7.out.r3.frozen 0
            have f1 : w7.frozen? ⟨s + 1 + 1 + 1, 1, none⟩ = false := HS7.out.r3.frozen 1
            have f2 : w7.frozen? ⟨s + 1 + 1 + 1, 2, none⟩ = false := HS7.out.r3.frozen 2
            go_upto_region 9 with fail
            change Code.wp _ _ _ _ (setc3 w7 (s + 1 + 1 + 1) (pvc (xi, xs')))
            have HS8 := hid (HS7.out.setM (xi, xs'))
            have HKw8 := hid (show (setc3 w7 (s + 1 + 1 + 1) (pvc (xi, xs'))).cell? ⟨q, 0, none⟩ = some (.bool false) ∧ (setc3 w7 (s + 1 + 1 + 1) (pvc (xi, xs'))).cell? ⟨q, 1, none⟩ = some (.int .i64 xi) ∧ (setc3 w7 (s + 1 + 1 + 1) (pvc (xi, xs'))).cell? ⟨q, 2, none⟩ = some (.string xs') from ⟨(cell_set3 _ _ _ _ _ _ _ hq3).trans k0, (cell_set3 _ _ _ _ _ _ _ hq3).trans k1, (cell_set3 _ _ _ _ _ _ _ hq3).trans k2⟩)
            clear m0 m1 m2 f0 f1 f2 k0 k1 k2
            generalize setc3 w7 (s + 1 + 1 + 1) (pvc (xi, xs')) = w8 at *
            obtain ⟨k0, k1, k2⟩ := HKw8.out
            go_wp2_with fail
            go_roundw
            case rel => exact ⟨t + 1, by omega, by go_num, hid (by rw [HM.out, HX.out, if_neg (by rintro (h | h) <;> omega), if_pos (.inr hoM)]; exact HS8.out)⟩
            case measure => simp [intOf]; omega
          · have i2 : ¬ oM > 0 := hoM
            go_upto_region 9 with (go_at_call 64; refine (HO2.out _).mono ?_; rintro e w7 ⟨rfl, hb7⟩; have HB7 := hid hb7; clear hb7)
            have HS7 := hid (HS5.out.step HB7.out)
            have j0 := (HB7.out.cell (p := ⟨q, 0, none⟩) hqw).trans k0
            have j1 := (HB7.out.cell (p := ⟨q, 1, none⟩) hqw).trans k1
            have j2 := (HB7.out.cell (p := ⟨q, 2, none⟩) hqw).trans k2
            clear m0 m1 m2 k0 k1 k2
            have k0 := j0
            have k1 := j1
            have k2 := j2
            clear j0 j1 j2 hqw
            go_wp2_with fail
            go_roundw
            case rel => exact ⟨t + 1, by omega, by go_num, hid (by rw [HM.out, HX.out, if_neg (by rintro (h | h) <;> omega), if_neg (by rintro (h | h) <;> omega)]; exact HS7.out)⟩
            case measure => simp [intOf]; omega
    · obtain rfl : t = vs.length := by omega
      rw [List.take_length, HM9.out.1, HM9.out.2] at HS
      obtain ⟨mi, ms⟩ := m9
      obtain ⟨Mi, Ms⟩ := M9
      have m0 : wr.cell? ⟨s + 1 + 1, 0, none⟩ = some (.bool false) := by rw [HS.out.r2.cell]; rfl
      have m1 : wr.cell? ⟨s + 1 + 1, 1, none⟩ = some (.int .i64 mi) := by rw [HS.out.r2.cell]; rfl
      have m2 : wr.cell? ⟨s + 1 + 1, 2, none⟩ = some (.string ms) := by rw [HS.out.r2.cell]; rfl
      have M0 : wr.cell? ⟨s + 1 + 1 + 1, 0, none⟩ = some (.bool false) := by rw [HS.out.r3.cell]; rfl
      have M1 : wr.cell? ⟨s + 1 + 1 + 1, 1, none⟩ = some (.int .i64 Mi) := by rw [HS.out.r3.cell]; rfl
      have M2 : wr.cell? ⟨s + 1 + 1 + 1, 2, none⟩ = some (.string Ms) := by rw [HS.out.r3.cell]; rfl
      have f0 := HS.out.r0.frozen 0
      have f1 := HS.out.r0.frozen 1
      have f2 := HS.out.r0.frozen 2
      have g0 := HS.out.r1.frozen 0
      have g1 := HS.out.r1.frozen 1
      have g2 := HS.out.r1.frozen 2
      have z0 : wr.cell? ⟨s, 0, none⟩ = some (.bool false) := by rw [HS.out.r0.cell]; rfl
      have z1 : wr.cell? ⟨s, 1, none⟩ = some (.int .i64 0) := by rw [HS.out.r0.cell]; rfl
      have z2 : wr.cell? ⟨s, 2, none⟩ = some (.string ByteArray.empty) := by rw [HS.out.r0.cell]; rfl
      have y0 : wr.cell? ⟨s + 1, 0, none⟩ = some (.bool false) := by rw [HS.out.r1.cell]; rfl
      have y1 : wr.cell? ⟨s + 1, 1, none⟩ = some (.int .i64 0) := by rw [HS.out.r1.cell]; rfl
      have y2 : wr.cell? ⟨s + 1, 2, none⟩ = some (.string ByteArray.empty) := by rw [HS.out.r1.cell]; rfl
      go_upto_region 10 with fail
      go_region
      go_wp2_with fail
      change bodyPost _ _ _ _ _ (setc3 (setc3 wr s (pvc (mi, ms))) (s + 1) (pvc (Mi, Ms))).drew
      have R0 : Row (setc3 (setc3 wr s (pvc (mi, ms))) (s + 1) (pvc (Mi, Ms))) s 42 (pvc (mi, ms)) := setc3_other (row_setc3 HS.out.r0 _ _ _) _ (by omega)
      have R1 : Row (setc3 (setc3 wr s (pvc (mi, ms))) (s + 1) (pvc (Mi, Ms))) (s + 1) 42 (pvc (Mi, Ms)) := row_setc3 (setc3_other HS.out.r1 _ (by omega)) _ _ _
      have HBF : Below s w (setc3 (setc3 wr s (pvc (mi, ms))) (s + 1) (pvc (Mi, Ms))) := below_setc3 (below_setc3 HS.out.bl _ (Nat.le_refl _) _) _ (by omega) _
      clear m0 m1 m2 M0 M1 M2 f0 f1 f2 g0 g1 g2 z0 z1 z2 y0 y1 y2
      generalize setc3 (setc3 wr s (pvc (mi, ms))) (s + 1) (pvc (Mi, Ms)) = w9 at *
      have q0 : w9.cell? ⟨s, 0, none⟩ = some (.bool false) := by rw [R0.cell]; rfl
      have q1 : w9.cell? ⟨s, 1, none⟩ = some (.int .i64 mi) := by rw [R0.cell]; rfl
      have q2 : w9.cell? ⟨s, 2, none⟩ = some (.string ms) := by rw [R0.cell]; rfl
      have p0 : w9.cell? ⟨s + 1, 0, none⟩ = some (.bool false) := by rw [R1.cell]; rfl
      have p1 : w9.cell? ⟨s + 1, 1, none⟩ = some (.int .i64 Mi) := by rw [R1.cell]; rfl
      have p2 : w9.cell? ⟨s + 1, 2, none⟩ = some (.string Ms) := by rw [R1.cell]; rfl
      refine bodyPost_ret (v := .tuple #[pva (mi, ms), pva (Mi, Ms)]) ?_ rfl ⟨rfl, ?_⟩
      · simp [results, Tryz.results72, go_sem, q0, q1, q2, p0, p1, p2]
        exact ⟨rfl, rfl⟩
      · have hse := HSE.out
        subst hse
        exact bdrew HBF 1
end Go.Proofs.YthonbfojpbfmgaaGreatDoor

/- The plain answer: the place of a value, the different values. -/
set_option linter.unusedVariables false
set_option linter.unusedSimpArgs false
set_option linter.unnecessarySimpa false
set_option maxRecDepth 100000
namespace Go.Proofs.YthonbfojpbfmgaaGreatDoor
open Go.RowKit

end Go.Proofs.YthonbfojpbfmgaaGreatDoor

/- The plain answer: the different values, the smallest first. -/
set_option linter.unusedVariables false
set_option linter.unusedSimpArgs false
set_option linter.unnecessarySimpa false
set_option maxRecDepth 100000
namespace Go.Proofs.YthonbfojpbfmgaaGreatDoor
open Go.RowKit

end Go.Proofs.YthonbfojpbfmgaaGreatDoor

/- Mathematics of the different values: each is one of the values, and none stands at or below the one before. -/
set_option maxRecDepth 512
set_option linter.unusedVariables false
set_option linter.unusedSimpArgs false
set_option linter.unnecessarySimpa false
namespace Go.Proofs.YthonbfojpbfmgaaGreatDoor
open Go.RowKit

theorem bytesLess_trans : ∀ a b c : List UInt8, Op.bytesLess a b = true → Op.bytesLess b c = true → Op.bytesLess a c = true := by
  intro a
  induction a with
  | nil =>
    intro b c h1 h2
    cases b with
    | nil => simp [Op.bytesLess] at h1
    | cons y b =>
      cases c with
      | nil => simp [Op.bytesLess] at h2
      | cons z c => simp [Op.bytesLess]
  | cons x a ih =>
    intro b c h1 h2
    cases b with
    | nil => simp [Op.bytesLess] at h1
    | cons y b =>
      cases c with
      | nil => simp [Op.bytesLess] at h2
      | cons z c =>
        simp only [Op.bytesLess, Bool.or_eq_true, Bool.and_eq_true, decide_eq_true_eq, beq_iff_eq] at h1 h2 ⊢
        rcases h1 with h1 | ⟨h1, h3⟩ <;> rcases h2 with h2 | ⟨h2, h4⟩
        · exact .inl (UInt8.lt_trans h1 h2)
        · subst h2; exact .inl h1
        · subst h1; exact .inl h2
        · subst h1 h2; exact .inr ⟨rfl, ih _ _ h3 h4⟩
theorem bytesLess_tri : ∀ a b : List UInt8, Op.bytesLess a b = false → a ≠ b → Op.bytesLess b a = true := by
  intro a
  induction a with
  | nil =>
    intro b h1 h2
    cases b with
    | nil => exact absurd rfl h2
    | cons y b => simp [Op.bytesLess] at h1
  | cons x a ih =>
    intro b h1 h2
    cases b with
    | nil => simp [Op.bytesLess]
    | cons y b =>
      rw [← Bool.not_eq_true] at h1
      simp only [Op.bytesLess, Bool.or_eq_true, Bool.and_eq_true, decide_eq_true_eq, beq_iff_eq] at h1 ⊢
      by_cases hxy : x = y
      · subst hxy
        refine .inr ⟨rfl, ih b ?_ (fun h => h2 (by rw [h]))⟩
        rw [← Bool.not_eq_true]
        exact fun h => h1 (.inr ⟨rfl, h⟩)
      · refine .inl ?_
        rcases UInt8.lt_or_lt_of_ne hxy with h | h
        · exact absurd (.inl h) h1
        · exact h
theorem bytesLess_self : ∀ l : List UInt8, Op.bytesLess l l = false := by
  intro l
  induction l with
  | nil => rfl
  | cons a l ih => rw [Op.bytesLess, ih]; simp
end Go.Proofs.YthonbfojpbfmgaaGreatDoor

/- Mathematics: what is sorted and then cleared of repeats is the list of the different values. -/
set_option maxRecDepth 512
set_option linter.unusedVariables false
set_option linter.unusedSimpArgs false
set_option linter.unnecessarySimpa false
namespace Go.Proofs.YthonbfojpbfmgaaGreatDoor
open Go.RowKit

section
variable {α : Type} [Inhabited α] [DecidableEq α] (lt : α → α → Prop)
end

end Go.Proofs.YthonbfojpbfmgaaGreatDoor

/- The plain answer: the payload by a dictionary. -/
set_option linter.unusedVariables false
set_option linter.unusedSimpArgs false
set_option linter.unnecessarySimpa false
set_option maxRecDepth 100000
namespace Go.Proofs.YthonbfojpbfmgaaGreatDoor
open Go.RowKit

end Go.Proofs.YthonbfojpbfmgaaGreatDoor

/- The plain answer: the other payloads. -/
set_option linter.unusedVariables false
set_option linter.unusedSimpArgs false
set_option linter.unnecessarySimpa false
set_option maxRecDepth 100000
namespace Go.Proofs.YthonbfojpbfmgaaGreatDoor
open Go.RowKit

end Go.Proofs.YthonbfojpbfmgaaGreatDoor

/- The plain answer: packed values. -/
set_option linter.unusedVariables false
set_option linter.unusedSimpArgs false
set_option linter.unnecessarySimpa false
set_option maxRecDepth 100000
namespace Go.Proofs.YthonbfojpbfmgaaGreatDoor
open Go.RowKit

/-! ### whatever the codec -/
end Go.Proofs.YthonbfojpbfmgaaGreatDoor
