/- Package codec: the numbers of integers. -/
import Derived.Test.YthonbfojpbfmgaaGreatDoorLawkerneluptoB19
import Derived.Test.YthonbfojpbfmgaaGreatDoorLawkerneluptoB21
import Derived.Test.YthonbfojpbfmgaaGreatDoorLawkerneluptoB5
import Derived.Deep.Onto
import Derived.Test.YthonbfojpbfmgaaGreatDoorLawkerneluptoB9
set_option linter.unusedVariables false
set_option linter.unusedSimpArgs false
set_option linter.unnecessarySimpa false
set_option maxRecDepth 100000
namespace Go.Proofs.YthonbfojpbfmgaaGreatDoor
open Go.RowKit

theorem field_Int (b : Bool) (i : Int) (s : ByteArray) : ∀ w : World, (Instr.field 42 (.agg #[.bool b, .int .i64 i, .string s]) 1).run Tryz.prog w = .ok (.int .i64 i) w := fun _ => by rfl
set_option maxHeartbeats 4000000 in
theorem numbersI_any (xs : List Int) (u : Value) (w : World) (hu : Rd w u xs.length 1 (i64s xs)) (hl : xs.length ≤ 1048576) :
    Calls Tryz.prog 182 #[.iface 68 (.agg #[]), u] w fun e w' => ∃ r, e = .returned r ∧ w'.ownsRow w.heap.size 2 1 r xs.length (i64s xs) ∧ Below w.heap.size w w' := by
  have HU := hid hu
  obtain ⟨A1, c1, rfl, _, _, _⟩ := hu.form
  obtain ⟨n, hn⟩ : ∃ n, xs.length = n := ⟨_, rfl⟩
  have HN := hid hn
  rw [hn] at hl HU
  simp only [hn]
  clear hu hn
  go_enter Tryz.func182, Tryz.ntmps182
  go_wp2
  refine upon_make 2 (.int .i64 0) 8 Tryz.underlying51 Tryz.info64 rfl n (by omega) (by omega) (by omega) (by unfold maxLen; omega) ?_
  intro w2 hrow2 hb2 hsz2
  obtain ⟨q, hq⟩ : ∃ q, w.heap.size = q := ⟨_, rfl⟩
  have HQ := hid hq
  rw [hq] at hrow2 hb2 hsz2 ⊢
  have HROW2 := hid hrow2
  have HB2 := hid hb2
  clear hrow2 hb2 hq
  go_wp2
  go_loopw [13] (fun i wr => ∃ j : Nat, j ≤ n ∧ i = .int .i64 j ∧ Hid (Row wr q 2 (i64s (xs.take j) ++ List.replicate (n - j) (.int .i64 0))) ∧ Hid (Below q w wr) ∧ Hid (q < wr.heap.size)) (fun i _ => n - (intOf i).toNat)
  case atStart => exact ⟨0, by omega, rfl, hid (by simpa [i64s] using HROW2.out), HB2, hid (by omega)⟩
  case round =>
    obtain ⟨j, hj, rfl, HR, HB, HZ⟩ := hrel
    by_cases hlt : j < n
    · obtain ⟨b, o, rfl, hs⟩ := (HU.out.mono (by rw [HQ.out]; exact HB.out)).atI (by omega)
      have e1 := hs j (by rw [HN.out]; exact hlt)
      clear hs
      have HT := hid (take_snoc xs 0 j (by rw [HN.out]; exact hlt))
      generalize xs.getD j 0 = x at *
      have hmv := m_Cell_I
      have hfl := field_Int false x ByteArray.empty
      have HZQ := hid HZ.out
      go_wp2_with (go_at_call 271; refine (CellRaw_I x _).mono ?_; rintro e w5 ⟨rfl, hb5⟩; have HR5 := hid (HR.out.mono hb5); have HB5 := hid (HB.out.trans (hb5.mono (Nat.le_of_lt HZQ.out))); have HZ5 := hid (Nat.lt_of_lt_of_le HZQ.out hb5.size); clear hb5 hmv; have hcell : w5.cell? ⟨q, j, none⟩ = some (.int .i64 0) := (by rw [HR5.out.cell]; exact get_fill _ _ _ _ (by simp [i64s, List.length_take, HN.out]; omega) (by omega)); have hfr := HR5.out.frozen j)
      go_roundw
      case rel =>
        refine ⟨j + 1, by omega, by go_num, hid ?_, hid (below_set HB5.out _ _ _ (Nat.le_refl _)), hid (by simpa [World.setCell] using HZ5.out)⟩
        have hss := HR5.out.set j (.int .i64 x)
        rw [set_fill _ _ _ _ _ (by simp [i64s, List.length_take, HN.out]; omega) (by omega)] at hss
        rw [HT.out, i64s_append, ← Nat.sub_sub n j 1]
        exact hss
      case measure => simp [intOf]; omega
    · obtain rfl : j = n := by omega
      have htk : xs.take j = xs := by rw [← HN.out, List.take_length]
      rw [htk, Nat.sub_self, List.replicate_zero, List.append_nil] at HR
      go_wp2_with fail
      go_ret
      exact ⟨_, rfl, HR.out.owns (Nat.le_of_eq HQ.out) (by rw [i64s_length, HN.out]) (by unfold maxLen; omega), by rw [HQ.out]; exact HB.out⟩
end Go.Proofs.YthonbfojpbfmgaaGreatDoor

/- Package kernel: literals carried over into the domain of the lanes (integers). -/
set_option linter.unusedVariables false
set_option linter.unusedSimpArgs false
set_option linter.unnecessarySimpa false
set_option maxRecDepth 100000
namespace Go.Proofs.YthonbfojpbfmgaaGreatDoor
open Go.RowKit

/-- literals and codecs that come into question -/
def okL_I (x : Int) : Prop := okI x
def cdL_I (cd : Nat) : Prop := True
def lnC_I (cd : Nat) (list : List Int) (base lit : Int) : Nat := if cd = 2 then firstGe list lit else if lit < base then 0 else (lit - base).toNat
def lnE_I (cd : Nat) (list : List Int) (base lit : Int) : Bool := if cd = 2 then decide (lit ∈ list) else decide (base ≤ lit)
theorem dist_u64 (b n : Int) (h1 : okI b) (h2 : okI n) (h : b ≤ n) : IntKind.u64.wrap (IntKind.u64.wrap n - IntKind.u64.wrap b) = (((n - b).toNat : Nat) : Int) := by
  unfold okI at h1 h2
  rw [IntKind.wrap_u64, IntKind.wrap_u64, IntKind.wrap_u64]
  omega
set_option maxHeartbeats 4000000 in
theorem laneOf_I (w : World) (g : Nat) (rows : Int) (codec wd : Nat) (nulls : List Nat) (count : Nat) (list : List Int) (ends : List Nat) (base : Int) (lanes : List Nat) (lit : Int)
    (h : Ck_I w g rows codec wd nulls count list ends base lanes) (hll : list.length ≤ 1048576) (hup : codec = 2 → ∀ a b, a < b → b < list.length → list.getD a 0 < list.getD b 0) (hcd : cdL_I codec) (hb : okI base) (hlr : okL_I lit) :
    Calls Tryz.prog 208 #[.iface 68 (.agg #[]), .pointer (some ⟨g, 0, none⟩), .int .i64 lit] w fun e w' => e = .returned (.tuple #[.int .u64 (lnC_I codec list base lit), .bool (lnE_I codec list base lit)]) ∧ Below w.heap.size w w' := by
  obtain ⟨nu, v5, ev, nv, bef, hr, h2, h3, h4, h5, h6⟩ := h.ex
  have HUP := hid hup
  have HB64 := hid (fun hh w2 hb2 => BinarySearch64f_any v5 list lit w2 (h3.mono hb2) hll (hup hh))
  obtain ⟨A5, c5, rfl, _, _, _⟩ := h3.form
  have c1 : w.cell? ⟨g, 0 + 1, none⟩ = some (.int .i64 codec) := by rw [hr.cell]; rfl
  have c5' : w.cell? ⟨g, 0 + 5, none⟩ = some (.slice A5 list.length c5) := by rw [hr.cell]; rfl
  have c7 : w.cell? ⟨g, 0 + 7, none⟩ = some (.int .i64 base) := by rw [hr.cell]; rfl
  have HR := hid hr
  clear h2 h3 h4 h5 h6 hr h hup
  by_cases hc : codec = 2
  · subst hc
    have HBS := hid (HB64.out rfl w (brefl w))
    have hfl : firstGe list lit ≤ list.length := firstGe_le list lit
    have e1 : lnC_I 2 list base lit = firstGe list lit := if_pos rfl
    have e2 : lnE_I 2 list base lit = decide (lit ∈ list) := if_pos rfl
    rw [e1, e2]
    clear HB64 c7 e1 e2
    generalize decide (lit ∈ list) = fd at *
    generalize firstGe list lit = r at *
    have hru : IntKind.u64.wrap (r : Int) = (r : Int) := by rw [IntKind.wrap_u64]; omega
    go_enter Tryz.func208, Tryz.ntmps208
    go_wp2_with (go_at_call 207; refine HBS.out.mono ?_; rintro e w1 ⟨rfl, nn, hw1⟩; have HB1 : Hid (Below w.heap.size w w1) := (hid (by rw [hw1]; exact bdrew (brefl w) nn)); clear hw1 c1 c5')
    go_ret2
    exact ⟨rfl, HB1.out⟩
  · have hc2 : ¬ (codec : Int) = 2 := by omega
    have hc3 : ((codec : Int) == 2) = false := beq_eq_false_iff_ne.2 hc2
    by_cases hlt : lit < base
    · have e1 : lnC_I codec list base lit = 0 := by unfold lnC_I; rw [if_neg hc, if_pos hlt]
      have e2 : lnE_I codec list base lit = false := by unfold lnE_I; rw [if_neg hc]; exact decide_eq_false (by omega)
      rw [e1, e2]
      clear e1 e2 c5' HB64 hb hlr
      have hmv := m_Cell_I
      have hfi := field_Int false lit ByteArray.empty
      go_enter Tryz.func208, Tryz.ntmps208
      go_wp2_with (go_at_call 271; refine (CellRaw_I lit _).mono ?_; rintro e w1 ⟨rfl, hb1⟩; have HB1 := hid hb1; have HR1 := hid (HR.out.mono hb1); clear hb1 hmv c1 c7; have c7 : w1.cell? ⟨g, 0 + 7, none⟩ = some (.int .i64 base) := by rw [HR1.out.cell]; rfl)
      go_ret2
      exact ⟨rfl, HB1.out⟩
    · have e1 : lnC_I codec list base lit = (lit - base).toNat := by unfold lnC_I; rw [if_neg hc, if_neg hlt]
      have e2 : lnE_I codec list base lit = true := by unfold lnE_I; rw [if_neg hc]; exact decide_eq_true (by omega)
      rw [e1, e2]
      have hdu := dist_u64 base lit hb hlr (by omega)
      clear e1 e2 c5' HB64 hb hlr
      generalize (lit - base).toNat = r at *
      have hmv := m_Cell_I
      have hfi := field_Int false lit ByteArray.empty
      go_enter Tryz.func208, Tryz.ntmps208
      go_wp2_with (go_at_call 271; refine (CellRaw_I lit _).mono ?_; rintro e w1 ⟨rfl, hb1⟩; have HB1 := hid hb1; have HR1 := hid (HR.out.mono hb1); clear hb1 hmv c1 c7; have c7 : w1.cell? ⟨g, 0 + 7, none⟩ = some (.int .i64 base) := by rw [HR1.out.cell]; rfl)
      go_ret2
      exact ⟨rfl, HB1.out⟩

set_option maxHeartbeats 8000000 in
theorem compareLanes_I (w : World) (g : Nat) (rows : Int) (codec wd : Nat) (nulls : List Nat) (count : Nat) (list : List Int) (ends : List Nat) (base : Int) (lanes : List Nat) (op : Int) (lit : Int)
    (h : Ck_I w g rows codec wd nulls count list ends base lanes) (hT : Tab w) (hll : list.length ≤ 1048576) (hup : codec = 2 → ∀ a b, a < b → b < list.length → list.getD a 0 < list.getD b 0) (hcd : cdL_I codec) (hb : okI base) (hlr : okL_I lit)
    (ho : 1 ≤ op ∧ op ≤ 6) (hlv : ∀ x ∈ lanes, x < 18446744073709551616) (hlm : lanes.length ≤ 16777216) (hlc : lnC_I codec list base lit < 18446744073709551616) :
    Calls Tryz.prog 161 #[.iface 68 (.agg #[]), .pointer (some ⟨g, 0, none⟩), .int .i64 op, .int .i64 lit] w fun e w' =>
      ∃ r, e = .returned r ∧ w'.ownsRow w.heap.size 40 1 r (cmpR wd count (laO (lnE_I codec list base lit) op) lanes (laC (lnE_I codec list base lit) op (lnC_I codec list base lit))).length (u64s (cmpR wd count (laO (lnE_I codec list base lit) op) lanes (laC (lnE_I codec list base lit) op (lnC_I codec list base lit)))) ∧ Below w.heap.size w w' := by
  have HLN := hid (laneOf_I w g rows codec wd nulls count list ends base lanes lit h hll hup hcd hb hlr)
  obtain ⟨nu, v5, ev, v8, bef, hr, h2, h3, h4, h5, h6⟩ := h.ex
  have HT := hid hT
  have HTL := hid (fun (w2 : World) (h : Below w.heap.size w w2) => hT.mono h hT.lt)
  have HLV := hid hlv
  have hlm2 : lanes.length ≤ maxLen := by unfold maxLen; omega
  have HCM := hid (fun (w2 : World) (h : Below w.heap.size w w2) (op' : Int) (c' : Nat) (hc : c' < 18446744073709551616) => Compare_any v8 lanes wd count op' c' w2 (hT.mono h hT.lt) (h5.mono h) hlv hc hlm2)
  obtain ⟨A8, c8, rfl, _, _, _⟩ := h5.form
  have HR := hid hr
  clear hr h2 h3 h4 h5 h6 h hup hb hlr hlv hT
  obtain ⟨E, hE⟩ : ∃ E, lnE_I codec list base lit = E := ⟨_, rfl⟩
  rw [hE] at HLN ⊢
  generalize lnC_I codec list base lit = C at *
  clear hE
  have hgl : g < w.heap.size := HR.out.lt
  cases E
  · have HBE := hid (fun w2 => besides_any op C w2 ho)
    have hcl := Nat.lt_of_le_of_lt (laC_le false op C) hlc
    have e1 : laO false op = besO op := rfl
    have e2 : laC false op C = besC op C := rfl
    rw [e2] at hcl
    rw [e1, e2]
    clear e1 e2
    generalize besO op = op' at *
    generalize besC op C = C' at *
    have HCMx := hid (fun (w2 : World) (h : Below w.heap.size w w2) => HCM.out w2 h op' C' hcl)
    clear HCM
    generalize cmpR wd count op' lanes C' = R at *
    generalize cmpOk wd count op' lanes = OK at *
    go_enter Tryz.func161, Tryz.ntmps161
    go_upto_region 4 with (first
      | (go_at_call 208; refine HLN.out.mono ?_; rintro e w1 ⟨rfl, hb1⟩; have HB1 := hid hb1; clear hb1)
      | (go_at_call 192; refine (HBE.out w1).mono ?_; rintro e w2 ⟨rfl, rfl⟩))
    have HR1 := hid (HR.out.mono HB1.out)
    have k8 : w2.cell? ⟨g, 0 + 8, none⟩ = some (.slice A8 lanes.length c8) := by rw [HR1.out.cell]; rfl
    have k2 : w2.cell? ⟨g, 0 + 2, none⟩ = some (.int .i64 wd) := by rw [HR1.out.cell]; rfl
    have k4 : w2.cell? ⟨g, 0 + 4, none⟩ = some (.int .i64 count) := by rw [HR1.out.cell]; rfl
    have hg1 : g < w2.heap.size := HR1.out.lt
    go_region_held3 (fun w' => w'.cell? ⟨g, 0 + 8, none⟩ = some (.slice A8 lanes.length c8) ∧ w'.cell? ⟨g, 0 + 2, none⟩ = some (.int .i64 wd) ∧ w'.cell? ⟨g, 0 + 4, none⟩ = some (.int .i64 count)) (go_keep)
      (first
        | (go_at_call 52; refine (HCMx.out _ (bdrew HB1.out 1)).mono ?_; rintro e w5 ⟨r, rfl, ho5, hb5⟩; have HO5 := hid ho5; have HB5 := hid ((bdrew (brefl w2) 1).trans hb5); have m0 := (hb5.cell (p := ⟨g, 0 + 8, none⟩) hg1).trans k8; have m1 := (hb5.cell (p := ⟨g, 0 + 2, none⟩) hg1).trans k2; have m2 := (hb5.cell (p := ⟨g, 0 + 4, none⟩) hg1).trans k4; clear hb5 ho5))
    all_goals go_wp2_with fail
    all_goals go_ret
    all_goals exact ⟨r, rfl, owns_low HO5.out HB1.out.size, bthen HB1.out HB5.out⟩
  · have hcl := Nat.lt_of_le_of_lt (laC_le true op C) hlc
    have e1 : laO true op = op := rfl
    have e2 : laC true op C = C := rfl
    rw [e2] at hcl
    rw [e1, e2]
    clear e1 e2
    have HCMx := hid (fun (w2 : World) (h : Below w.heap.size w w2) => HCM.out w2 h op C hcl)
    clear HCM
    generalize cmpR wd count op lanes C = R at *
    generalize cmpOk wd count op lanes = OK at *
    go_enter Tryz.func161, Tryz.ntmps161
    go_upto_region 4 with (first
      | (go_at_call 208; refine HLN.out.mono ?_; rintro e w1 ⟨rfl, hb1⟩; have HB1 := hid hb1; clear hb1))
    have HR1 := hid (HR.out.mono HB1.out)
    have k8 : w1.cell? ⟨g, 0 + 8, none⟩ = some (.slice A8 lanes.length c8) := by rw [HR1.out.cell]; rfl
    have k2 : w1.cell? ⟨g, 0 + 2, none⟩ = some (.int .i64 wd) := by rw [HR1.out.cell]; rfl
    have k4 : w1.cell? ⟨g, 0 + 4, none⟩ = some (.int .i64 count) := by rw [HR1.out.cell]; rfl
    have hg1 : g < w1.heap.size := HR1.out.lt
    go_region_held3 (fun w' => w'.cell? ⟨g, 0 + 8, none⟩ = some (.slice A8 lanes.length c8) ∧ w'.cell? ⟨g, 0 + 2, none⟩ = some (.int .i64 wd) ∧ w'.cell? ⟨g, 0 + 4, none⟩ = some (.int .i64 count)) (go_keep)
      (first
        | (go_at_call 52; refine (HCMx.out _ (bdrew HB1.out 1)).mono ?_; rintro e w5 ⟨r, rfl, ho5, hb5⟩; have HO5 := hid ho5; have HB5 := hid ((bdrew (brefl w1) 1).trans hb5); have m0 := (hb5.cell (p := ⟨g, 0 + 8, none⟩) hg1).trans k8; have m1 := (hb5.cell (p := ⟨g, 0 + 2, none⟩) hg1).trans k2; have m2 := (hb5.cell (p := ⟨g, 0 + 4, none⟩) hg1).trans k4; clear hb5 ho5))
    all_goals go_wp2_with fail
    all_goals go_ret
    all_goals exact ⟨r, rfl, owns_low HO5.out HB1.out.size, bthen HB1.out HB5.out⟩
end Go.Proofs.YthonbfojpbfmgaaGreatDoor

/- Package kernel: hits out of lanes (integers). -/
set_option linter.unusedVariables false
set_option linter.unusedSimpArgs false
set_option linter.unnecessarySimpa false
set_option maxRecDepth 100000
namespace Go.Proofs.YthonbfojpbfmgaaGreatDoor
open Go.RowKit

/-- a chunk's lanes: what is known of them -/
structure LnD_I (codec wd count : Nat) (list : List Int) (base : Int) (lanes : List Nat) : Prop where
  cd : codec = 2 ∨ codec = 4 ∨ codec = 5
  cd2 : cdL_I codec
  ok : okPack wd count lanes = true
  lv : ∀ x ∈ lanes, x < 18446744073709551616
  lm : lanes.length ≤ 16777216
  ll : list.length ≤ 1048576
  cn : count ≤ 65536
  up : codec = 2 → ∀ a b, a < b → b < list.length → list.getD a 0 < list.getD b 0
  inl : codec = 2 → ∀ j, j < count → L.laneOf wd lanes j < list.length
  b : okI base
  rm : codec ≠ 2 → ∀ j, j < count → base + (L.laneOf wd lanes j : Int) ≤ 9223372036854775807
theorem firstGe_iff {es : List Int} {t : Int} (hup : ∀ a b, a < b → b < es.length → es.getD a 0 < es.getD b 0) {a : Nat} (ha : a < es.length) : a < firstGe es t ↔ es.getD a 0 < t := by
  have hg : ∀ (i : Nat) (h : i < es.length), es.getD i 0 = es[i] := fun i h => by simp [List.getD, List.getElem?_eq_getElem h]
  constructor
  · intro h
    have h1 := List.not_of_lt_findIdx (p := fun e => decide (t ≤ e)) (xs := es) h
    rw [hg a ha]
    simp only [decide_eq_true_eq, Int.not_le, Bool.not_eq_true, decide_eq_false_iff_not] at h1
    omega
  · intro h
    rcases Nat.lt_or_ge a (firstGe es t) with h1 | h1
    · exact h1
    · exfalso
      have hr : firstGe es t < es.length := by omega
      have h2 := List.findIdx_getElem (p := fun e => decide (t ≤ e)) (xs := es) (w := hr)
      simp only [decide_eq_true_eq] at h2
      have h3 : t ≤ es.getD (firstGe es t) 0 := by rw [hg _ hr]; exact h2
      by_cases he : a = firstGe es t
      · rw [he] at h; omega
      · have := hup _ _ (show firstGe es t < a by omega) ha
        omega
theorem firstGe_mem {es : List Int} {t : Int} (hup : ∀ a b, a < b → b < es.length → es.getD a 0 < es.getD b 0) {a : Nat} (ha : a < es.length) : es.getD a 0 = t ↔ (t ∈ es ∧ a = firstGe es t) := by
  have hg : ∀ (i : Nat) (h : i < es.length), es.getD i 0 = es[i] := fun i h => by simp [List.getD, List.getElem?_eq_getElem h]
  constructor
  · intro h
    refine ⟨by rw [← h, hg a ha]; exact List.getElem_mem ha, ?_⟩
    exact (firstGe_eq es t a (Nat.le_of_lt ha) (fun b hb => by rw [← h]; exact hup b a hb ha) (fun _ => by omega)).symm
  · rintro ⟨h1, h2⟩
    obtain ⟨i, hi, he⟩ := List.getElem_of_mem h1
    have h3 : firstGe es t = i := firstGe_eq es t i (Nat.le_of_lt hi) (fun b hb => by rw [← he, ← hg i hi]; exact hup b i hb hi) (fun _ => by rw [hg i hi, he]; omega)
    rw [h2, h3, hg i hi, he]
theorem vl_two_I (wd : Nat) (list : List Int) (ends : List Nat) (base : Int) (lanes : List Nat) (j : Nat) : vl_I 2 wd list ends base lanes j = list.getD (L.laneOf wd lanes j) 0 := by
  unfold vl_I val_I
  rw [if_neg (by omega), if_neg (by omega), if_pos rfl]; rfl
theorem vl_far_I {codec wd count : Nat} {list : List Int} {base : Int} {lanes : List Nat} (d : LnD_I codec wd count list base lanes) (ends : List Nat) (h : codec ≠ 2) {j : Nat} (hj : j < count) : vl_I codec wd list ends base lanes j = base + (L.laneOf wd lanes j : Int) := by
  have hr := d.rm h j hj
  have hb := d.b
  unfold okI at hb
  have h45 : codec = 4 ∨ codec = 5 := by have := d.cd; omega
  unfold vl_I val45
  rw [if_pos h45, IntKind.wrap_i64, IntKind.wrap_i64]
  omega
theorem sg_I (v l : Int) : ((ordP (pI v) (pI l) < 0) ↔ v < l) ∧ (ordP (pI v) (pI l) = 0 ↔ v = l) := by
  rw [ordP_I]
  constructor
  · split
    · simp [*]
    · split <;> simp [*] <;> omega
  · split
    · constructor
      · intro h; omega
      · intro h; omega
    · split
      · constructor
        · intro h; omega
        · intro h; omega
      · constructor
        · intro _; omega
        · intro _; rfl
theorem lane_rel_I {codec wd count : Nat} {list : List Int} {base : Int} {lanes : List Nat} (d : LnD_I codec wd count list base lanes) (ends : List Nat) (op : Int) (ho : 1 ≤ op ∧ op ≤ 6) (lit : Int) {j : Nat} (hj : j < count) :
    cmpF wd (laO (lnE_I codec list base lit) op) lanes (laC (lnE_I codec list base lit) op (lnC_I codec list base lit)) j = standsS op (ordP (pI (vl_I codec wd list ends base lanes j)) (pI lit)) := by
  unfold cmpF
  obtain ⟨s1, s2⟩ := sg_I (vl_I codec wd list ends base lanes j) lit
  refine rel_lane op ho _ _ _ _ (s1.trans ?_) (s2.trans ?_)
  · by_cases h : codec = 2
    · subst h
      rw [vl_two_I, ← firstGe_iff (d.up rfl) (d.inl rfl j hj)]
      unfold lnC_I; rw [if_pos rfl]
    · rw [vl_far_I d ends h hj]
      unfold lnC_I; rw [if_neg h]
      split <;> omega
  · by_cases h : codec = 2
    · subst h
      rw [vl_two_I, firstGe_mem (d.up rfl) (d.inl rfl j hj)]
      unfold lnC_I lnE_I; rw [if_pos rfl, if_pos rfl, decide_eq_true_eq]
    · rw [vl_far_I d ends h hj]
      unfold lnC_I lnE_I; rw [if_neg h, if_neg h, decide_eq_true_eq]
      split <;> omega
theorem lnC_lt_I {codec wd count : Nat} {list : List Int} {base : Int} {lanes : List Nat} (d : LnD_I codec wd count list base lanes) (lit : Int) (hl : okL_I lit) : lnC_I codec list base lit < 18446744073709551616 := by
  have hb := d.b
  have := d.ll
  unfold okI at hb
  unfold okL_I okI at hl
  unfold lnC_I
  have := firstGe_le list lit
  split
  · omega
  · split <;> omega
/-- the bits of one comparison -/
theorem comp_I (w : World) (g : Nat) (rows : Int) (codec wd : Nat) (nulls : List Nat) (count : Nat) (list : List Int) (ends : List Nat) (base : Int) (lanes : List Nat) (op : Int) (lit : Int)
    (h : Ck_I w g rows codec wd nulls count list ends base lanes) (hT : Tab w) (d : LnD_I codec wd count list base lanes) (hlr : okL_I lit) (ho : 1 ≤ op ∧ op ≤ 6) :
    Calls Tryz.prog 161 #[.iface 68 (.agg #[]), .pointer (some ⟨g, 0, none⟩), .int .i64 op, .int .i64 lit] w fun e w' =>
      ∃ r zs, e = .returned r ∧ BitsOf count (fun j => standsS op (ordP (pI (vl_I codec wd list ends base lanes j)) (pI lit))) zs ∧ w'.ownsRow w.heap.size 40 1 r ((count + 63) / 64) (u64s zs) ∧ Below w.heap.size w w' := by
  refine (compareLanes_I w g rows codec wd nulls count list ends base lanes op lit h hT d.ll d.up d.cd2 d.b hlr ho d.lv d.lm (lnC_lt_I d lit hlr)).mono ?_
  rintro e w' ⟨r, rfl, h1, h2⟩
  have hb := cmpR_bits wd count (laO (lnE_I codec list base lit) op) lanes (laC (lnE_I codec list base lit) op (lnC_I codec list base lit)) (by unfold cmpOk; rw [laO_rel _ _ ho, d.ok]; rfl)
  refine ⟨r, _, rfl, ⟨hb.1, hb.2.1, fun i => ?_⟩, by rw [← hb.1]; exact h1, h2⟩
  rw [hb.2.2]
  by_cases hi : i < count
  · rw [lane_rel_I d ends op ho lit hi]
  · simp [hi]
end Go.Proofs.YthonbfojpbfmgaaGreatDoor

/- Package kernel: the hits of a chunk whose values stand in lanes (integers). -/
set_option linter.unusedVariables false
set_option linter.unusedSimpArgs false
set_option linter.unnecessarySimpa false
set_option maxRecDepth 100000
namespace Go.Proofs.YthonbfojpbfmgaaGreatDoor
open Go.RowKit

theorem leafT_le6_I (op : Int) (h : 1 ≤ op ∧ op ≤ 6) (l : Int) (v : PV) : leafT op ([l].map pI) v = standsS op (ordP v (pI l)) := by
  unfold leafT
  rw [if_neg (by omega), if_neg (by omega)]; rfl
theorem leafT_7_I (ls : List Int) (v : PV) : leafT 7 (ls.map pI) v = ls.any (fun x => standsS 1 (ordP v (pI x))) := by
  unfold leafT
  rw [if_pos rfl, List.any_map]; rfl
theorem leafT_8_I (a b : Int) (v : PV) : leafT 8 ([a, b].map pI) v = (standsS 6 (ordP v (pI a)) && standsS 4 (ordP v (pI b))) := by
  unfold leafT
  rw [if_neg (by decide), if_pos rfl]
  show (decide (0 ≤ ordP v (pI a)) && decide (ordP v (pI b) ≤ 0)) = _
  unfold standsS
  simp
set_option maxHeartbeats 8000000 in
theorem laneHits_I (w : World) (g : Nat) (rows : Int) (codec wd : Nat) (nulls : List Nat) (count : Nat) (list : List Int) (ends : List Nat) (base : Int) (lanes : List Nat) (op : Int) (lits : List Int) (lv : Value)
    (h : Ck_I w g rows codec wd nulls count list ends base lanes) (hT : Tab w) (d : LnD_I codec wd count list base lanes) (hl : Lit_I w op lv lits) (hlr : ∀ x ∈ lits, okL_I x) :
    Calls Tryz.prog 108 #[.iface 68 (.agg #[]), .pointer (some ⟨g, 0, none⟩), .agg #[.int .i64 op, lv]] w fun e w' => HitAns w w' e count (fun j => leafT op (lits.map pI) (pI (vl_I codec wd list ends base lanes j))) := by
  obtain ⟨A, c, rfl, _, _, _⟩ := hl.rd.form
  have HL := hid hl
  have HB0 := hid ((brefl w).alloc (Nat.le_refl _) (.cells #[.int .i64 op, .slice A lits.length c] 117))
  have HRT : Hid (Row (w.alloc (.cells #[.int .i64 op, .slice A lits.length c] 117)) w.heap.size 117 [.int .i64 op, .slice A lits.length c]) := hid (by unfold Row; rw [heap_alloc_new])
  have HSZ : Hid ((w.alloc (.cells #[.int .i64 op, .slice A lits.length c] 117)).heap.size = w.heap.size + 1) := hid (by simp)
  have HCO := hid (fun (w2 : World) (hb : Below w.heap.size w w2) (op' : Int) (lit : Int) (hlt : okL_I lit) (ho : 1 ≤ op' ∧ op' ≤ 6) => comp_I w2 g rows codec wd nulls count list ends base lanes op' lit (h.mono hb) (hT.mono hb hT.lt) d hlt ho)
  have HC := hid h
  have HLR := hid hlr
  have hcn : count ≤ 65536 := d.cn
  obtain ⟨ho1, ho2, ho3, ho4⟩ := hl.ok
  have hll : lits.length ≤ 1048576 := hl.le
  clear h hT d hl hlr
  generalize vl_I codec wd list ends base lanes = vl at *
  have hcase : op ≤ 6 ∨ op = 7 ∨ op = 8 := by omega
  rcases hcase with h6 | rfl | rfl
  · obtain ⟨l0, rfl⟩ : ∃ l0, lits = [l0] := by
      have := ho3 h6
      match lits, this with
      | [x], _ => exact ⟨x, rfl⟩
    have hop : 1 ≤ op ∧ op ≤ 6 := ⟨ho1, h6⟩
    simp only [leafT_le6_I op hop]
    have h7 : ¬ op = 7 := by omega
    have h8 : ¬ op = 8 := by omega
    have h7b : (op == 7) = false := beq_eq_false_iff_ne.2 h7
    have h8b : (op == 8) = false := beq_eq_false_iff_ne.2 h8
    have HCX := hid (fun (w2 : World) (hb : Below w.heap.size w w2) => HCO.out w2 hb op l0 (HLR.out l0 (by simp)) hop)
    obtain ⟨b, o, rfl, hs⟩ := (HL.out.mono HB0.out).rd.atI (by simp)
    have c0 := hs 0 (by simp)
    simp only [List.getD_cons_zero, Nat.add_zero] at c0
    simp only [List.length_singleton] at HB0 HRT HSZ c0 ⊢
    clear hs HL HCO HLR ho1 ho2 ho3 ho4 h6 hll hop
    go_enter Tryz.func108, Tryz.ntmps108
    go_upto_region 1 with fail
    generalize w.alloc (.cells #[.int .i64 op, .slice (some ⟨b, o, none⟩) 1 c] 117) = w0 at *
    obtain ⟨k0, k1⟩ := cellP HRT.out
    go_upto_region 14 with fail
    have hpl : w.heap.size < w0.heap.size := HRT.out.lt
    have hbl : b < w0.heap.size := World.block_lt_of_cell? w0 _ c0
    go_region_held3 (fun w' => w'.cell? ⟨w.heap.size, 0, none⟩ = some (.int .i64 op) ∧ w'.cell? ⟨w.heap.size, 1, none⟩ = some (.slice (some ⟨b, o, none⟩) 1 c) ∧ w'.cell? ⟨b, o, none⟩ = some (.int .i64 l0)) (go_keep)
      (first
        | (go_at_call 161; refine (HCX.out _ (bdrew HB0.out 1)).mono ?_; rintro e w5 ⟨r, zs, rfl, hz1, hz2, hb5⟩; have HZ1 := hid hz1; have HZ2 := hid hz2; have HB5 := hid ((bdrew (brefl w0) 1).trans hb5); have m0 := (hb5.cell (p := ⟨w.heap.size, 0, none⟩) hpl).trans k0; have m1 := (hb5.cell (p := ⟨w.heap.size, 1, none⟩) hpl).trans k1; have m2 := (hb5.cell (p := ⟨b, o, none⟩) hbl).trans c0; clear hb5 hz1 hz2))
    all_goals go_wp2_with fail
    all_goals go_ret
    all_goals exact ⟨r, zs, rfl, HZ1.out, owns_rd HZ2.out, bthen HB0.out HB5.out⟩
  · have HCX := hid (fun (w2 : World) (hb : Below w.heap.size w w2) (x : Int) (hx : x ∈ lits) => HCO.out w2 hb 1 x (HLR.out x hx) (by omega))
    simp only [leafT_7_I]
    have HL0 := hid (HL.out.mono HB0.out).rd
    have HNB := hid (fun w2 => newBitmap_any count w2 (by omega))
    obtain ⟨n, hn⟩ : ∃ n, lits.length = n := ⟨_, rfl⟩
    have HN := hid hn
    rw [hn] at HB0 HRT HSZ HL0 hll ⊢
    clear HL HCO HLR ho1 ho2 ho3 ho4 hn
    obtain ⟨T, hT⟩ : ∃ T : Nat → Int → Bool, ∀ j x, standsS 1 (ordP (pI (vl j)) (pI x)) = T j x := ⟨_, fun _ _ => rfl⟩
    simp only [hT] at HCX ⊢
    clear hT
    have HST := hid (BitsTo.start count (fun j => (lits.take 0).any (T j)))
    go_enter Tryz.func108, Tryz.ntmps108
    go_upto_region 1 with fail
    generalize w.alloc (.cells #[.int .i64 7, .slice A n c] 117) = w0 at *
    obtain ⟨k0, k1⟩ := cellP HRT.out
    have HR0 := hid (by obtain ⟨nu, v5, ev, nv, bef, hr, _⟩ := HC.out.ex; exact (⟨nu, v5, ev, nv, bef, hr.mono HB0.out⟩ : ∃ nu v5 ev nv bef, Row w0 g 111 (ck_I rows codec wd nu count v5 ev base nv (.iface 68 (.agg #[])) bef)))
    have k4 : w0.cell? ⟨g, 0 + 4, none⟩ = some (.int .i64 count) := by obtain ⟨nu, v5, ev, nv, bef, hr⟩ := HR0.out; rw [hr.cell]; rfl
    go_upto_region 4 with (go_at_call 51; refine (HNB.out w0).mono ?_; rintro e w1 ⟨rfl, h1, h2, h3⟩; have HRW := hid h1; have HB1 := hid h2; have HZ1 := hid h3; clear h1 h2 h3)
    have HRT1 := hid (HRT.out.mono HB1.out)
    obtain ⟨q, hq⟩ : ∃ q, w0.heap.size = q := ⟨_, rfl⟩
    have HQ := hid hq
    rw [hq] at HRW HB1 HZ1 HSZ ⊢
    obtain ⟨m, hm⟩ : ∃ m, (count + 63) / 64 = m := ⟨_, rfl⟩
    have HM := hid hm
    rw [hm] at HRW HST
    simp only [hm] at HCX ⊢
    clear hq hm HNB k0 k1 k4
    obtain ⟨y0, y1⟩ := cellP HRT1.out
    go_wp2_with fail
    clear y0 y1
    go_loopw [23] (fun i wr => ∃ k : Nat, k ≤ n ∧ i = .int .i64 k ∧ Hid (∃ zs, zs.length = m ∧ (∀ x ∈ zs, x < 18446744073709551616) ∧ (∀ j, bitOf zs j = (decide (j < count) && (lits.take k).any (T j))) ∧ Row wr q 40 (u64s zs)) ∧ Hid (Below q w0 wr) ∧ Hid (q < wr.heap.size)) (fun i _ => n - (intOf i).toNat)
    case atStart => exact ⟨0, by omega, rfl, hid ⟨List.replicate m 0, by simp, HST.out.2.1, fun j => by rw [HST.out.2.2]; simp, HRW.out⟩, HB1, hid (by rw [HZ1.out]; omega)⟩
    case round =>
      obtain ⟨k, hk, rfl, HR, HB, HZ⟩ := hrel
      obtain ⟨zs, hz1, hz2, hz3, hz4⟩ := HR.out
      have HA1 := hid hz1; have HA2 := hid hz2; have HA3 := hid hz3; have HA4 := hid hz4
      clear hz1 hz2 hz3 hz4 HR
      by_cases hlt : k < n
      · have hbw : Below w0.heap.size w0 wr := by rw [HQ.out]; exact HB.out
        obtain ⟨b, o, rfl, hs⟩ := (HL0.out.mono hbw).atI (by omega)
        have l0 := hs k (by rw [HN.out]; exact hlt)
        have HX := hid (show lits.getD k 0 ∈ lits by simp [List.getD, List.getElem?_eq_getElem (show k < lits.length by rw [HN.out]; exact hlt)])
        have HTK : Hid (lits.take (k + 1) = lits.take k ++ [lits.getD k 0]) := hid (by rw [List.take_add_one]; simp [List.getD, List.getElem?_eq_getElem (show k < lits.length by rw [HN.out]; exact hlt)])
        have HCY := hid (HCX.out wr (bthen HB0.out hbw) _ HX.out)
        clear hs hbw
        generalize lits.getD k 0 = x at *
        go_wp2_with (first
          | (go_at_call 161; refine HCY.out.mono ?_; rintro e w5 ⟨r, z2, rfl, hy1, hy2, hb5⟩; have HY1 := hid hy1; have HY2 := hid hy2; have HB5 := hid hb5; have hqw := HZ.out; clear hy1 hy2 hb5; have HUN := hid (unite_any q m m r zs z2 w5 (HA4.out.mono HB5.out) HA1.out (fun w' hc => owns_rd (owns_chg HY2.out hc hqw hqw)) (by rw [HY1.out.1]; exact HM.out) (by have := HM.out; omega) (Nat.le_refl _) HA2.out HY1.out.2.1))
          | (go_at_call 151; refine HUN.out.mono ?_; rintro e w6 ⟨rfl, hw6⟩; have HW6 := hid hw6; clear hw6))
        go_roundw
        case rel =>
          obtain ⟨zs', hz1, hz2, hz3, hz4, hz5, hz6⟩ := HW6.out
          have hb6 : Below q w0 w5 := HB.out.trans (HB5.out.mono (Nat.le_of_lt HZ.out))
          have hq5 : q < w5.heap.size := Nat.lt_of_lt_of_le HZ.out HB5.out.size
          refine ⟨k + 1, by omega, by go_num, hid ⟨zs', hz1, hz2, fun j => ?_, hz4⟩, hid (hz5.below hb6 (Nat.le_of_lt hq5) (Nat.le_refl _) (Nat.le_refl _)), hid (by rw [hz6]; exact hq5)⟩
          have hz3j : bitOf zs' j = (bitOf zs j || bitOf z2 j) := hz3 j
          rw [hz3j, HA3.out, HY1.out.2.2, HTK.out, List.any_append]
          cases decide (j < count) <;> simp
        case measure => simp [intOf]; omega
      · obtain rfl : k = n := by omega
        have htk : lits.take k = lits := by rw [← HN.out, List.take_length]
        rw [htk] at HA3
        clear htk
        go_wp2_with fail
        go_ret
        refine ⟨_, zs, rfl, ⟨by rw [HA1.out, HM.out], HA2.out, HA3.out⟩, ?_, HB0.out.trans (HB.out.mono (by rw [HSZ.out]; omega))⟩
        rw [HM.out]
        exact HA4.out.rd' (by simp [u64s]; exact HA1.out) (by have := HM.out; unfold maxLen; omega)
  · obtain ⟨a, b2, rfl⟩ : ∃ a b2, lits = [a, b2] := by
      have := ho4 rfl
      match lits, this with
      | [x, y], _ => exact ⟨x, y, rfl⟩
    simp only [leafT_8_I]
    have HCA := hid (fun (w2 : World) (hb : Below w.heap.size w w2) => HCO.out w2 hb 6 a (HLR.out a (by simp)) (by omega))
    have HCB := hid (fun (w2 : World) (hb : Below w.heap.size w w2) => HCO.out w2 hb 4 b2 (HLR.out b2 (by simp)) (by omega))
    obtain ⟨b, o, rfl, hs⟩ := (HL.out.mono HB0.out).rd.atI (by simp)
    have c0 := hs 0 (by simp)
    have c1 := hs 1 (by simp)
    simp only [List.getD_cons_zero, List.getD_cons_succ, Nat.add_zero] at c0 c1
    have hl2 : [a, b2].length = 2 := rfl
    simp only [hl2] at HB0 HRT HSZ c0 c1 ⊢
    clear hs HL HCO HLR ho1 ho2 ho3 ho4 hll hl2
    go_enter Tryz.func108, Tryz.ntmps108
    go_upto_region 1 with fail
    generalize w.alloc (.cells #[.int .i64 8, .slice (some ⟨b, o, none⟩) 2 c] 117) = w0 at *
    obtain ⟨k0, k1⟩ := cellP HRT.out
    have hpl : w.heap.size < w0.heap.size := HRT.out.lt
    have hbl : b < w0.heap.size := World.block_lt_of_cell? w0 _ c0
    go_upto_region 12 with (go_at_call 161; refine (HCA.out w0 HB0.out).mono ?_; rintro e w5 ⟨r, zs, rfl, hz1, hz2, hb5⟩; have HZ1 := hid hz1; have HZ2 := hid hz2; have HB5 := hid hb5; have m0 := (hb5.cell (p := ⟨w.heap.size, 0, none⟩) hpl).trans k0; have m1 := (hb5.cell (p := ⟨w.heap.size, 1, none⟩) hpl).trans k1; have m2 := (hb5.cell (p := ⟨b, o, none⟩) hbl).trans c0; have m3 := (hb5.cell (p := ⟨b, o + 1, none⟩) hbl).trans c1; clear hb5 hz1 hz2)
    clear k0 k1 c0 c1
    go_upto_region 13 with (first
      | (go_at_call 161; refine (HCB.out w5 (bthen HB0.out HB5.out)).mono ?_; rintro e w6 ⟨r2, z2, rfl, hy1, hy2, hb6⟩; have HY1 := hid hy1; have HY2 := hid hy2; have HB6 := hid hb6; clear hy1 hy2 hb6; have HIN := hid (intersectO_any w0.heap.size w5.heap.size ((count + 63) / 64) r r2 zs z2 w6 (owns_below HZ2.out HB6.out) HY2.out (Nat.le_trans HB5.out.size HB6.out.size) (fun k hk => (HZ2.out.lt k hk).2) (by omega) HZ1.out.2.1 HY1.out.2.1))
      | (go_at_call 153; refine HIN.out.mono ?_; rintro e w7 ⟨rfl, hb7, z3, hx1, hx2, hx3, hx4⟩; have HB7 := hid hb7; have HX1 := hid hx1; have HX2 := hid hx2; have HX3 := hid hx3; have HX4 := hid hx4; clear hx1 hx2 hx3 hx4 hb7))
    go_wp2_with fail
    go_ret
    refine ⟨r, z3, rfl, ⟨HX1.out, HX2.out, fun i => ?_⟩, HX4.out, HB0.out.trans (((HB5.out.trans (HB6.out.mono HB5.out.size)).trans HB7.out).mono HB0.out.size)⟩
    rw [HX3.out, HZ1.out.2.2, HY1.out.2.2]
    cases decide (i < count) <;> simp
end Go.Proofs.YthonbfojpbfmgaaGreatDoor

/- Package kernel: the hits of a chunk (integers). -/
set_option linter.unusedVariables false
set_option linter.unusedSimpArgs false
set_option linter.unnecessarySimpa false
set_option maxRecDepth 100000
namespace Go.Proofs.YthonbfojpbfmgaaGreatDoor
open Go.RowKit

/-- a chunk's values: what is known of them, by codec -/
def HitD_I (codec wd count : Nat) (list : List Int) (ends : List Nat) (base : Int) (lanes : List Nat) : Prop :=
  (codec = 1 ∧ list.length = count ∧ count ≤ 65536) ∨
  (codec = 3 ∧ list.length = ends.length ∧ count ≤ 65536 ∧ ends.length ≤ 65536 ∧ (∀ a b, a < b → b < ends.length → ends.getD a 0 < ends.getD b 0) ∧ endB ends ends.length = count) ∨
  LnD_I codec wd count list base lanes
theorem vl_one_I (wd : Nat) (list : List Int) (ends : List Nat) (base : Int) (lanes : List Nat) (j : Nat) : vl_I 1 wd list ends base lanes j = list.getD j dfI := by
  unfold vl_I val_I
  simp
theorem vl_three_I (wd : Nat) (list : List Int) (ends : List Nat) (base : Int) (lanes : List Nat) (j : Nat) : vl_I 3 wd list ends base lanes j = list.getD (firstGe (nI ends) ((j : Int) + 1)) dfI := by
  unfold vl_I val_I
  simp
set_option maxHeartbeats 8000000 in
theorem hitsOf_I (w : World) (g : Nat) (rows : Int) (codec wd : Nat) (nulls : List Nat) (count : Nat) (list : List Int) (ends : List Nat) (base : Int) (lanes : List Nat) (op : Int) (lits : List Int) (lv : Value)
    (h : Ck_I w g rows codec wd nulls count list ends base lanes) (hT : Tab w) (d : HitD_I codec wd count list ends base lanes) (hl : Lit_I w op lv lits) (hlr : ∀ x ∈ lits, okL_I x) :
    Calls Tryz.prog 57 #[.iface 68 (.agg #[]), .pointer (some ⟨g, 0, none⟩), .agg #[.int .i64 op, lv]] w fun e w' => HitAns w w' e count (fun j => leafT op (lits.map pI) (pI (vl_I codec wd list ends base lanes j))) := by
  have HANS : Hid (∀ w2, Below w.heap.size w w2 → (codec = 1 → Calls Tryz.prog 106 #[.pointer (some ⟨g, 0, none⟩), .agg #[.int .i64 op, lv]] w2 fun e w' => HitAns w2 w' e count (fun j => leafT op (lits.map pI) (pI (vl_I codec wd list ends base lanes j)))) ∧
      (codec = 3 → Calls Tryz.prog 107 #[.pointer (some ⟨g, 0, none⟩), .agg #[.int .i64 op, lv]] w2 fun e w' => HitAns w2 w' e count (fun j => leafT op (lits.map pI) (pI (vl_I codec wd list ends base lanes j)))) ∧
      (codec ≠ 1 → codec ≠ 3 → Calls Tryz.prog 108 #[.iface 68 (.agg #[]), .pointer (some ⟨g, 0, none⟩), .agg #[.int .i64 op, lv]] w2 fun e w' => HitAns w2 w' e count (fun j => leafT op (lits.map pI) (pI (vl_I codec wd list ends base lanes j))))) := hid (by
    intro w2 hb
    have hc2 := h.mono hb
    have hl2 := hl.mono hb
    refine ⟨fun h1 => ?_, fun h3 => ?_, fun h1 h3 => ?_⟩
    · subst h1
      rcases d with ⟨_, d1, d2⟩ | ⟨h0, _⟩ | d
      · simp only [vl_one_I]
        exact plainHits_I w2 g rows 1 wd nulls count list ends base lanes op lits lv hc2 d1 d2 hl2
      · cases h0
      · have := d.cd; omega
    · subst h3
      rcases d with ⟨h0, _⟩ | ⟨_, d1, d2, d3, d4, d5⟩ | d
      · cases h0
      · simp only [vl_three_I]
        exact runHits_I w2 g rows 3 wd nulls count list ends base lanes op lits lv hc2 d1 d2 d3 d4 d5 hl2
      · have := d.cd; omega
    · rcases d with ⟨h0, _⟩ | ⟨h0, _⟩ | d
      · exact absurd h0 h1
      · exact absurd h0 h3
      · exact laneHits_I w2 g rows codec wd nulls count list ends base lanes op lits lv hc2 (hT.mono hb hT.lt) d hl2 hlr)
  obtain ⟨A, c, rfl, _, _, _⟩ := hl.rd.form
  obtain ⟨nu, v5, ev, nv, bef, hr, _⟩ := h.ex
  have HB0 := hid ((brefl w).alloc (Nat.le_refl _) (.cells #[.int .i64 op, .slice A lits.length c] 117))
  have HRT : Hid (Row (w.alloc (.cells #[.int .i64 op, .slice A lits.length c] 117)) w.heap.size 117 [.int .i64 op, .slice A lits.length c]) := hid (by unfold Row; rw [heap_alloc_new])
  have HR0 := hid (hr.mono HB0.out)
  generalize (fun j => leafT op (lits.map pI) (pI (vl_I codec wd list ends base lanes j))) = F at *
  clear h hT d hl hlr hr
  by_cases h1 : codec = 1
  · subst h1
    go_enter Tryz.func57, Tryz.ntmps57
    go_upto_region 1 with fail
    generalize w.alloc (.cells #[.int .i64 op, .slice A lits.length c] 117) = w0 at *
    obtain ⟨k0, k1⟩ := cellP HRT.out
    have k2 : w0.cell? ⟨g, 0 + 1, none⟩ = some (.int .i64 1) := by rw [HR0.out.cell]; rfl
    have HX := hid ((HANS.out w0 HB0.out).1 rfl)
    go_wp2_with (go_at_call 106; refine HX.out.mono ?_; rintro e w5 ⟨r, zs, rfl, h1, h2, h3⟩; have H1 := hid h1; have H2 := hid h2; have H3 := hid h3; clear h1 h2 h3 k0 k1 k2)
    go_ret
    exact ⟨r, zs, rfl, H1.out, H2.out, bthen HB0.out H3.out⟩
  · by_cases h3 : codec = 3
    · subst h3
      go_enter Tryz.func57, Tryz.ntmps57
      go_upto_region 1 with fail
      generalize w.alloc (.cells #[.int .i64 op, .slice A lits.length c] 117) = w0 at *
      obtain ⟨k0, k1⟩ := cellP HRT.out
      have k2 : w0.cell? ⟨g, 0 + 1, none⟩ = some (.int .i64 3) := by rw [HR0.out.cell]; rfl
      have HX := hid ((HANS.out w0 HB0.out).2.1 rfl)
      go_wp2_with (go_at_call 107; refine HX.out.mono ?_; rintro e w5 ⟨r, zs, rfl, h1, h2, h3⟩; have H1 := hid h1; have H2 := hid h2; have H3 := hid h3; clear h1 h2 h3 k0 k1 k2)
      go_ret
      exact ⟨r, zs, rfl, H1.out, H2.out, bthen HB0.out H3.out⟩
    · have h1b : ((codec : Int) == 1) = false := beq_eq_false_iff_ne.2 (by omega)
      have h3b : ((codec : Int) == 3) = false := beq_eq_false_iff_ne.2 (by omega)
      have h1i : ¬ (codec : Int) = 1 := by omega
      have h3i : ¬ (codec : Int) = 3 := by omega
      have HX0 := hid (fun w2 hb => (HANS.out w2 hb).2.2 h1 h3)
      clear HANS h1 h3
      go_enter Tryz.func57, Tryz.ntmps57
      go_upto_region 1 with fail
      generalize w.alloc (.cells #[.int .i64 op, .slice A lits.length c] 117) = w0 at *
      obtain ⟨k0, k1⟩ := cellP HRT.out
      have k2 : w0.cell? ⟨g, 0 + 1, none⟩ = some (.int .i64 codec) := by rw [HR0.out.cell]; rfl
      have HX := hid (HX0.out w0 HB0.out)
      go_wp2_with (go_at_call 108; refine HX.out.mono ?_; rintro e w5 ⟨r, zs, rfl, h1, h2, h3⟩; have H1 := hid h1; have H2 := hid h2; have H3 := hid h3; clear h1 h2 h3 k0 k1 k2)
      go_ret
      exact ⟨r, zs, rfl, H1.out, H2.out, bthen HB0.out H3.out⟩
end Go.Proofs.YthonbfojpbfmgaaGreatDoor

/- The plain answer's Dense. -/
set_option maxRecDepth 512
set_option linter.unusedVariables false
set_option linter.unusedSimpArgs false
set_option linter.unnecessarySimpa false
namespace Go.Proofs.YthonbfojpbfmgaaGreatDoor
open Go.RowKit

end Go.Proofs.YthonbfojpbfmgaaGreatDoor

/- bitvec's Expand and the plain answer's. -/
set_option linter.unusedVariables false
set_option maxRecDepth 100000
set_option linter.unusedSimpArgs false
set_option linter.unnecessarySimpa false
namespace Go.Proofs.YthonbfojpbfmgaaGreatDoor
open Go.RowKit

def expOk (n : Int) (xs ys : List Nat) : Bool := okPack 1 n xs && okPack 1 ((rankN xs n.toNat : Nat) : Int) ys
def expF (xs ys : List Nat) (p : Nat) : Bool := bitOf xs p && bitOf ys (rankN xs p)
def expR (n : Int) (xs ys : List Nat) : List Nat := if expOk n xs ys = true then bmL ((List.range n.toNat).map (expF xs ys)) else []

theorem rankN_mono (xs : List Nat) (a : Nat) : ∀ d, rankN xs a ≤ rankN xs (a + d)
  | 0 => Nat.le_refl _
  | d + 1 => by
    have := rankN_mono xs a d
    rw [← Nat.add_assoc, rankN_succ]; omega
theorem rankN_lt (xs : List Nat) (p m : Nat) (hp : p < m) (hb : bitOf xs p = true) : rankN xs p < rankN xs m := by
  have h := rankN_mono xs (p + 1) (m - (p + 1))
  rw [show p + 1 + (m - (p + 1)) = m from by omega, rankN_succ, if_pos hb] at h
  omega
/-- the place at which the list of places has its entry j -/
theorem idxN_at (xs : List Nat) : ∀ (m j : Nat), j < rankN xs m → ∃ q, q < m ∧ (idxN xs m).getD j 0 = q ∧ bitOf xs q = true ∧ rankN xs q = j
  | 0, j, h => by simp [rankN] at h
  | m + 1, j, h => by
    rw [rankN_succ] at h
    by_cases hj : j < rankN xs m
    · obtain ⟨q, h1, h2, h3, h4⟩ := idxN_at xs m j hj
      refine ⟨q, by omega, ?_, h3, h4⟩
      rw [idxN_snoc, ← h2]
      simp only [List.getD]
      rw [List.getElem?_append_left (by rw [idxN_length]; exact hj)]
    · cases hb : bitOf xs m
      · rw [hb] at h; simp at h; omega
      · rw [hb, if_pos rfl] at h
        refine ⟨m, by omega, ?_, hb, by omega⟩
        rw [idxN_snoc, hb, if_pos rfl]
        simp only [List.getD]
        rw [List.getElem?_append_right (by rw [idxN_length]; omega), idxN_length, show j - rankN xs m = 0 from by omega]
        rfl
theorem rank_inj (xs : List Nat) (p q : Nat) (hp : bitOf xs p = true) (hq : bitOf xs q = true) (h : rankN xs p = rankN xs q) : p = q := by
  rcases Nat.lt_trichotomy p q with h1 | h1 | h1
  · have := rankN_lt xs p q h1 hp; omega
  · exact h1
  · have := rankN_lt xs q p h1 hq; omega
theorem exp_bm (m : Nat) (xs ys zs : List Nat) (hlen : zs.length = L.nWords 1 m) (hv : ∀ x ∈ zs, x < 18446744073709551616) (hb : ∀ j : Nat, bitOf zs j = (decide (j < m) && expF xs ys j)) :
    zs = bmL ((List.range m).map (expF xs ys)) := by
  obtain ⟨h1, h2, h3⟩ := bmL_isBm ((List.range m).map (expF xs ys))
  simp only [List.length_map, List.length_range] at h1 h3
  refine bm_ext (hlen.trans h1.symm) hv h2 (fun i hi => ?_)
  rw [hb, h3 i (by rw [h1, ← hlen]; exact hi)]
  by_cases hm : i < m
  · simp [hm, List.getD]
  · simp [hm]
/-- the bits that are set after j places -/
def EInv (m : Nat) (xs ys : List Nat) (j : Nat) (f : Nat → Bool) : Prop := ∀ p, f p = (decide (p < m) && (expF xs ys p && decide (rankN xs p < j)))
theorem einv_step {m : Nat} {xs ys : List Nat} {j q : Nat} {f f' : Nat → Bool} (h : EInv m xs ys j f) (hq : q < m) (hb : bitOf xs q = true) (hr : rankN xs q = j)
    (h1 : bitOf ys j = true → ∀ p, f' p = (f p || decide (p = q))) (h0 : bitOf ys j = false → f' = f) : EInv m xs ys (j + 1) f' := by
  intro p
  cases hy : bitOf ys j
  · rw [h0 hy, h p]
    by_cases hp : rankN xs p = j
    · have : expF xs ys p = false := by unfold expF; rw [hp, hy]; simp
      simp [this]
    · congr 2
      rw [decide_eq_decide]; omega
  · rw [h1 hy, h p]
    by_cases hpq : p = q
    · subst hpq
      have : expF xs ys p = true := by unfold expF; rw [hb, hr, hy]; rfl
      simp [hq, this, hr]
    · simp only [hpq, decide_false, Bool.or_false]
      congr 1
      cases he : expF xs ys p
      · simp
      · have hbp : bitOf xs p = true := by unfold expF at he; simp at he; exact he.1
        have hne : rankN xs p ≠ j := fun hh => hpq (rank_inj xs p q hbp hb (by omega))
        simp only [Bool.true_and]
        rw [decide_eq_decide]; omega
theorem einv_end {m : Nat} {xs ys : List Nat} {f : Nat → Bool} (h : EInv m xs ys (rankN xs m) f) : ∀ p, f p = (decide (p < m) && expF xs ys p) := by
  intro p
  rw [h p]
  by_cases hp : p < m
  · cases he : expF xs ys p
    · simp
    · have hbp : bitOf xs p = true := by unfold expF at he; simp at he; exact he.1
      simp [hp, rankN_lt xs p m hp hbp]
  · simp [hp]

set_option maxHeartbeats 400000 in
theorem hasBit_any (v : Value) (xs : List Nat) (i : Nat) (w : World) (hx : Rd w v xs.length 1 (u64s xs)) (hv : ∀ x ∈ xs, x < 18446744073709551616) (hl : xs.length ≤ maxLen) (hi : i < 64 * xs.length) (hi2 : i ≤ 9223372036854775807) :
    Calls Tryz.prog 98 #[v, .int .i64 i] w fun e w' => e = .returned (.bool (bitOf xs i)) ∧ w' = w := by
  unfold maxLen at hl
  obtain ⟨A, ca, rfl, hlc, hcm, hA⟩ := hx.form
  clear hx hlc hcm
  obtain ⟨d, hd⟩ : ∃ d, i / 64 = d := ⟨_, rfl⟩
  obtain ⟨r, hr⟩ : ∃ r, i % 64 = r := ⟨_, rfl⟩
  have hd' : (i : Int) / 64 = (d : Int) := by omega
  have hr' : (i : Int) % 64 = (r : Int) := by omega
  have hr64 : r < 64 := by omega
  have hdi : d ≤ i := by omega
  have hlt : d < xs.length := by omega
  have HB : Hid (bitOf xs i = (xs.getD d 0).testBit r) := by refine hid ?_; rw [bitOf, hd, hr]
  clear hd hr
  obtain ⟨b, o, rfl, hs⟩ := hA (by omega)
  have c1 := hs.word d hlt
  have hvd := hv (xs.getD d 0) (by simp [List.getD, List.getElem?_eq_getElem hlt])
  have HT := hid (bit_test (xs.getD d 0) r hvd)
  clear hA hs hvd
  generalize xs.getD d 0 = x at *
  go_enter Tryz.func98, Tryz.ntmps98
  go_wp2
  go_ret
  exact ⟨ret_bool (by rw [HB.out, HT.out]), rfl⟩

set_option maxHeartbeats 2000000 in
theorem Expand_any (v u : Value) (xs ys : List Nat) (n : Int) (w : World) (ht : Tab w) (hx : Rd w v xs.length 1 (u64s xs)) (hy : Rd w u ys.length 1 (u64s ys)) (hv : ∀ x ∈ xs, x < 18446744073709551616) (hvy : ∀ x ∈ ys, x < 18446744073709551616) (hl : xs.length ≤ maxLen) (hly : ys.length ≤ maxLen) :
    Calls Tryz.prog 53 #[v, .int .i64 n, u] w fun e w' => ∃ r, e = .returned (.tuple #[r, .bool (expOk n xs ys)]) ∧ w'.ownsRow w.heap.size 40 1 r (expR n xs ys).length (u64s (expR n xs ys)) ∧ Below w.heap.size w w' := by
  have HX := hid hx; have HY := hid hy; have HV := hid hv; have HVY := hid hvy; have HL := hid hl; have HLY := hid hly; have HT := hid ht
  have H := hid (isBitmap_any v xs n w hx hv hl)
  clear hx hy hv hvy hl hly ht
  obtain ⟨R, hR⟩ : ∃ R, expR n xs ys = R := ⟨_, rfl⟩
  obtain ⟨ok, hok⟩ : ∃ ok, expOk n xs ys = ok := ⟨_, rfl⟩
  rw [hok, hR]
  have HOK := hid hok; have HR := hid hR
  clear hok hR
  have HNO : Hid (expOk n xs ys = false → R = [] ∧ ok = false) := hid (fun h => ⟨by rw [← HR.out, expR, if_neg (by rw [h]; simp)], by rw [← HOK.out, h]⟩)
  obtain ⟨o1, ho1⟩ : ∃ o1, okPack 1 n xs = o1 := ⟨_, rfl⟩
  rw [ho1] at H
  have HO1 := hid ho1
  clear ho1
  go_enter Tryz.func53, Tryz.ntmps53
  cases o1
  · go_wp2_with (go_at_call 65; refine H.out.mono ?_; rintro e w' ⟨rfl, hw⟩; replace hw := hw.symm; subst hw)
    go_ret2
    have h := HNO.out (by unfold expOk; rw [HO1.out]; rfl)
    exact ⟨.slice none 0 0, by rw [h.2]; rfl, by rw [h.1]; exact World.ownsRow_nil _ _ _ _, Below.refl _ _⟩
  have hnn : 0 ≤ n ∧ n ≤ 65536 := by
    refine Decidable.byContradiction fun hc => ?_
    have := HO1.out
    rw [okPack_not _ (by omega)] at this; cases this
  obtain ⟨m, rfl⟩ := Int.eq_ofNat_of_zero_le hnn.1
  have hm : m ≤ 65536 := by omega
  have hip := (okPack_nat (wd := 1) (n := m) xs (by decide) hm).1 HO1.out
  have hlen : xs.length = (m + 63) / 64 := hip.1.trans (nWords1 m)
  have HRE : Hid (idxN xs (64 * xs.length) = idxN xs m) := by
    refine hid ?_; rw [show 64 * xs.length = m + (64 * xs.length - m) from by omega]
    exact idxN_gap xs m _ (fun p h1 h2 => isPack_beyond hip p h1)
  have HSP := hid (setPlaces_any v xs w HT.out HX.out HV.out (by omega))
  rw [HRE.out, idxN_length] at HSP
  clear hip hnn hlen HRE
  have HAT := hid (idxN_at xs m)
  have hrl : rankN xs m ≤ m := by rw [← idxN_length]; exact idxN_le xs m
  obtain ⟨I, hI⟩ : ∃ I, idxN xs m = I := ⟨_, rfl⟩
  rw [hI] at HSP HAT
  have HIL : Hid (I.length = rankN xs m) := hid (by rw [← hI]; rfl)
  clear hI
  obtain ⟨k, hk⟩ : ∃ k, rankN xs m = k := ⟨_, rfl⟩
  rw [hk] at HAT HIL hrl HSP
  have HK := hid hk
  clear hk
  have HB2 := hid (fun (w2 : World) (hr : Rd w2 u ys.length 1 (u64s ys)) => isBitmap_any u ys (k : Int) w2 hr HVY.out HLY.out)
  obtain ⟨o2, ho2⟩ : ∃ o2, okPack 1 (k : Int) ys = o2 := ⟨_, rfl⟩
  rw [ho2] at HB2
  have HO2 := hid ho2
  clear ho2
  have HEO : Hid (expOk (m : Int) xs ys = o2) := hid (by unfold expOk; rw [HO1.out, Int.toNat_natCast, HK.out, HO2.out]; rfl)
  have hml := L.nWords_le (w := 1) (n := m) (by omega)
  have HNW := hid (nWords1_le m)
  have HBW := hid (fun w2 => bitWords_any m w2 hm)
  obtain ⟨q, hq⟩ : ∃ q, L.nWords 1 m = q := ⟨_, rfl⟩
  rw [hq] at hml HNW HBW
  have HQ := hid hq
  clear hq
  go_wp2_with (first | (go_at_call 65; refine H.out.mono ?_; rintro e w' ⟨rfl, hw⟩; replace hw := hw.symm; subst hw) | fail)
  refine HSP.out.mono ?_
  rintro e w1 ⟨r1, rfl, hown1, hb1⟩
  have HOWN1 := hid hown1
  obtain ⟨A1, c1, rfl, hc1, hcm1, hI1, hform1⟩ := owns_form hown1
  have HFORM := hid hform1
  have HB1 := hid (HB2.out w1 (HY.out.mono hb1))
  clear hown1 hform1 hI1 hc1 hcm1
  cases o2
  · go_wp2_with (go_at_call 65; refine HB1.out.mono ?_; rintro e w' ⟨rfl, hw⟩; replace hw := hw.symm; subst hw)
    go_ret2
    have h := HNO.out HEO.out
    exact ⟨.slice none 0 0, by rw [h.2]; rfl, by rw [h.1]; exact World.ownsRow_nil _ _ _ _, hb1⟩
  have HYP : Hid (64 * ys.length ≥ k) := hid (by
    have h2 := ((okPack_nat (wd := 1) (n := k) ys (by decide) (by omega)).1 HO2.out).1
    rw [nWords1] at h2; omega)
  go_wp2_with (first | (go_at_call 65; refine HB1.out.mono ?_; rintro e w' ⟨rfl, hw⟩; replace hw := hw.symm; subst hw) | (go_at_call 91; refine (HBW.out w1).mono ?_; rintro e w' ⟨rfl, hw⟩; replace hw := hw.symm; subst hw))
  refine upon_make 40 (.int .u64 0) 8 Tryz.underlying28 Tryz.info45 rfl q (by omega) (by omega) (by omega) (by unfold maxLen; omega) ?_
  intro w2 hrow hb2 hsz2
  have HZ2 := hid hsz2
  have hrow2 : Row w2 w1.heap.size 40 (u64s (List.replicate q 0)) := by
    have e : u64s (List.replicate q 0) = List.replicate q (.int .u64 0) := by simp [u64s, u64]
    rw [e]; exact hrow
  have HROW := hid hrow2
  clear hsz2 hrow hrow2
  have hs01 : w.heap.size ≤ w1.heap.size := hb1.size
  go_wp2
  go_loopw [28] (fun i wr => ∃ (j : Nat) (zs : List Nat), j ≤ k ∧ i = .int .i64 j ∧ Hid (EInv m xs ys j (bitOf zs)) ∧ Hid (zs.length = q ∧ ∀ x ∈ zs, x < 18446744073709551616) ∧ Hid (Row wr w1.heap.size 40 (u64s zs)) ∧ Below w1.heap.size w1 wr ∧ Hid (wr.heap.size = w1.heap.size + 1)) (fun i _ => k - (intOf i).toNat)
  case atStart => exact ⟨0, List.replicate q 0, by omega, rfl, hid (fun p => by rw [bitOf_zeros]; simp), hid ⟨by simp, by intro x hx; rw [List.eq_of_mem_replicate hx]; omega⟩, HROW, hb2, HZ2⟩
  case round =>
    obtain ⟨j, zs, hj, rfl, HE, HZS, HRW, hb, HZ⟩ := hrel
    clear HROW hb2 HZ2
    by_cases hlt : j < k
    · obtain ⟨p, hpm, hpg, hpb, hpr⟩ := HAT.out j hlt
      obtain ⟨g, rfl, hg0, hg1, hgc, hgf⟩ := HFORM.out (by omega)
      have c2 : wr.cell? ⟨g, j, none⟩ = some (.int .i64 (p : Int)) := by
        have h3 : w1.cell? ⟨g, j, none⟩ = some (.int .i64 (p : Int)) := by
          rw [hgc j (by omega)]
          have hjl : j < I.length := by rw [HIL.out]; exact hlt
          simp only [List.getD, List.getElem?_eq_getElem hjl, Option.getD_some] at hpg
          simp [ints, List.getElem?_eq_getElem hjl, hpg]
        rw [← h3]
        exact hb.cell (p := ⟨g, j, none⟩) hg1
      have HPB := hid hpb; have HPR := hid hpr
      have HHB := hid (hasBit_any u ys j wr (HY.out.mono (bthen hb1 hb)) HVY.out HLY.out (by have := HYP.out; omega) (by omega))
      have HSB := hid (setBit_any w1.heap.size q q p zs wr HRW.out HZS.out.1 (Nat.le_refl _) (by have := HNW.out; omega) HZS.out.2 (by omega))
      have HBS := hid (bitOf_set zs p (by have := HNW.out; have := HZS.out.1; omega))
      have HS6 := hid (set_lt64 zs HZS.out.2 p)
      clear hpg hpb hpr hgc hgf
      obtain ⟨bb, hbb⟩ : ∃ bb, bitOf ys j = bb := ⟨_, rfl⟩
      rw [hbb] at HHB
      have HBB := hid hbb
      clear hbb
      cases bb
      · go_wp2_with (go_at_call 98; refine HHB.out.mono ?_; rintro e w' ⟨rfl, hw⟩; replace hw := hw.symm; subst hw)
        go_roundw
        case rel =>
          exact ⟨j + 1, zs, by omega, by go_num, hid (einv_step HE.out hpm HPB.out HPR.out (fun h => by rw [HBB.out] at h; cases h) (fun _ => rfl)), HZS, HRW, hb, HZ⟩
        case measure => simp [intOf]; omega
      · go_wp2_with (first | (go_at_call 98; refine HHB.out.mono ?_; rintro e w' ⟨rfl, hw⟩; replace hw := hw.symm; subst hw) | (go_at_call 99; refine HSB.out.mono ?_; rintro e w3 ⟨rfl, hr3, hb3, hz3, -⟩; have HR3 := hid hr3; have HZ3 := hid hz3; clear hr3 hz3))
        go_roundw
        case rel =>
          refine ⟨j + 1, _, by omega, by go_num, hid (einv_step HE.out hpm HPB.out HPR.out (fun _ => HBS.out) (fun h => by rw [HBB.out] at h; cases h)), hid ⟨by rw [List.length_set]; exact HZS.out.1, HS6.out⟩, HR3, hb.trans hb3, hid (by rw [HZ3.out]; exact HZ.out)⟩
        case measure => simp [intOf]; omega
    · go_wp2
      go_ret2
      obtain rfl : j = k := by omega
      have he := einv_end (by rw [HK.out]; exact HE.out)
      have hbm := exp_bm m xs ys zs (by rw [HZS.out.1, HQ.out]) HZS.out.2 he
      refine ⟨_, by rw [← HOK.out, HEO.out]; rfl, ?_, bthen hb1 hb⟩
      have hRR : R = zs := by rw [← HR.out, expR, if_pos HEO.out, Int.toNat_natCast, ← hbm]
      rw [hRR, HZS.out.1]
      exact HRW.out.owns hs01 (by rw [u64s_length, HZS.out.1]) (by unfold maxLen; omega)
end Go.Proofs.YthonbfojpbfmgaaGreatDoor

/- Package kernel: the bits of the rows out of those of the values. -/
set_option linter.unusedVariables false
set_option linter.unusedSimpArgs false
set_option linter.unnecessarySimpa false
set_option maxRecDepth 100000
namespace Go.Proofs.YthonbfojpbfmgaaGreatDoor
open Go.RowKit

theorem bits_pack {n : Nat} {F : Nat → Bool} {zs : List Nat} (hn : n ≤ 65536) (h : BitsOf n F zs) : okPack 1 n zs = true := by
  refine (okPack_nat (wd := 1) (n := n) _ (by decide) hn).2 ?_
  refine isPack_of_bits (by rw [h.1, nWords1k]) h.2.1 (fun i hi1 hi2 => ?_)
  rw [h.2.2]
  simp [show ¬ i < n from by omega]
theorem rank_not {rows : Nat} {nulls ps : List Nat} (h : BitsOf rows (fun i => !bitOf nulls i) ps) : ∀ p, p ≤ rows → rankN ps p + rankN nulls p = p
  | 0, _ => by unfold rankN; simp
  | p + 1, hp => by
    have ih := rank_not h p (by omega)
    rw [rankN_succ, rankN_succ, h.2.2 p]
    simp only [show p < rows by omega, decide_true, Bool.true_and]
    cases bitOf nulls p <;> simp <;> omega
theorem exp_bits {rows cnt : Nat} {nulls ps zs : List Nat} {F : Nat → Bool} (hr : rows ≤ 65536) (hc : cnt + rankN nulls rows = rows) (h : BitsOf rows (fun i => !bitOf nulls i) ps) (hz : BitsOf cnt F zs) :
    BitsOf rows (fun p => !bitOf nulls p && F (p - rankN nulls (p + 1))) (expR rows ps zs) := by
  have hrk := rank_not h rows (Nat.le_refl _)
  have hrc : rankN ps rows = cnt := by omega
  have hok : expOk rows ps zs = true := by
    unfold expOk
    rw [bits_pack hr h, Int.toNat_natCast, hrc, bits_pack (by omega) hz]; rfl
  unfold expR
  rw [if_pos hok]
  obtain ⟨h1, h2, h3⟩ := bmL_isBm ((List.range (rows : Int).toNat).map (expF ps zs))
  simp only [List.length_map, List.length_range, Int.toNat_natCast] at h1 h2 h3 ⊢
  rw [nWords1k] at h1
  refine ⟨h1, h2, fun i => ?_⟩
  by_cases hi : i < 64 * (bmL ((List.range rows).map (expF ps zs))).length
  · rw [h3 i hi]
    by_cases hn : i < rows
    · have e1 : ((List.range rows).map (expF ps zs)).getD i false = expF ps zs i := by simp [List.getD, hn]
      rw [e1]
      unfold expF
      have hb := h.2.2 i
      simp only [hn, decide_true, Bool.true_and] at hb ⊢
      rw [hb]
      cases hnb : bitOf nulls i
      · simp only [Bool.not_false, Bool.true_and]
        rw [hz.2.2]
        have hlt : rankN ps i < cnt := by rw [← hrc]; exact rankN_lt ps i rows hn (by rw [hb, hnb]; rfl)
        have hs := rank_not h i (Nat.le_of_lt hn)
        have hs2 : rankN nulls (i + 1) = rankN nulls i := by rw [rankN_succ, hnb]; simp
        rw [hs2, show rankN ps i = i - rankN nulls i by omega, decide_eq_true (by omega), Bool.true_and]
      · simp
    · simp [hn]
  · rw [bitOf_out _ _ (by omega)]
    simp [show ¬ i < rows by omega]
end Go.Proofs.YthonbfojpbfmgaaGreatDoor
