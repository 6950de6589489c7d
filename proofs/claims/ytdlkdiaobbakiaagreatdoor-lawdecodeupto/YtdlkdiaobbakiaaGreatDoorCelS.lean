/- Package chunk: the cell of a row. -/
import Derived.Test.YtdlkdiaobbakiaaGreatDoorNumS
import Derived.Deep.CutRange
import Derived.Deep.RegionHeld3
set_option linter.unusedVariables false
set_option linter.unusedSimpArgs false
set_option linter.unnecessarySimpa false
set_option maxRecDepth 100000
namespace Go.Proofs.YtdlkdiaobbakiaaGreatDoor
open Go.RowKit

set_option maxHeartbeats 8000000 in
theorem Cell_S (w : World) (g : Nat) (rows codec wd : Nat) (nulls : List Nat) (count : Int) (list : List ByteArray) (ends : List Nat) (base : Int) (lanes : List Nat) (r : Nat) (x : ByteArray)
    (h : Ck_S w g rows codec wd nulls count list ends base lanes) (hbm : nulls.length = (rows + 63) / 64) (hnv : ∀ x ∈ nulls, x < 18446744073709551616) (hrr : rows ≤ 65536) (hr : r < rows)
    (hV : bitOf nulls r = false → ∀ w2, Below w.heap.size w w2 → Calls Tryz.prog 102 #[.pointer (some ⟨g, 0, none⟩), .int .i64 ((r - rankN nulls (r + 1) : Nat) : Int)] w2 fun e w' => e = .returned (vS x) ∧ Below w2.heap.size w2 w') :
    Calls Tryz.prog 74 #[.pointer (some ⟨g, 0, none⟩), .int .i64 r] w fun e w' => e = .returned (aggv (if bitOf nulls r = true then cellN else cellS x)) ∧ Below w.heap.size w w' := by
  obtain ⟨nu, lv, ev, nv, bef, h1, h2, h3, h4, h5, h6⟩ := h.ex
  obtain ⟨A, ca, rfl, hlc, hcm, hA⟩ := h2.form
  obtain ⟨A', ca', rfl, hlc', hcm', hA'⟩ := h6.form
  obtain ⟨q, hq⟩ : ∃ q, r / 64 = q := ⟨_, rfl⟩
  obtain ⟨b, hb⟩ : ∃ b, r % 64 = b := ⟨_, rfl⟩
  have hq' : (r : Int) / 64 = (q : Int) := by omega
  have hb' : (r : Int) % 64 = (b : Int) := by omega
  have hqn : q < nulls.length := by omega
  have hb64 : b < 64 := by omega
  obtain ⟨bl, o, rfl, hs⟩ := hA (by omega)
  obtain ⟨bl', o', rfl, hs'⟩ := hA' (by omega)
  have c3 : w.cell? ⟨g, 3, none⟩ = some (.slice (some ⟨bl, o, none⟩) nulls.length ca) := by rw [h1.cell]; rfl
  have c3' : w.cell? ⟨g, 0 + 3, none⟩ = some (.slice (some ⟨bl, o, none⟩) nulls.length ca) := c3
  have c10 : w.cell? ⟨g, 10, none⟩ = some (.slice (some ⟨bl', o', none⟩) nulls.length ca') := by rw [h1.cell]; rfl
  have c9 : w.cell? ⟨g, 9, none⟩ = some (.iface 44 (.agg #[])) := by rw [h1.cell]; rfl
  have d1 := hs.word q hqn
  have d2 : w.cell? ⟨bl', o' + q, none⟩ = some (.int .i64 (popL (nulls.take q) : Nat)) := by
    have := hs' q _ (i64s_get (befL nulls) q (by rw [befL_length]; exact hqn))
    rwa [befL_get _ _ hqn] at this
  have hxq : nulls.getD q 0 < 18446744073709551616 := hnv _ (by simp [List.getD, List.getElem?_eq_getElem hqn])
  have hbit : bitOf nulls r = (nulls.getD q 0).testBit b := by unfold bitOf; rw [hq, hb]
  have HBT := hid (bit_test (nulls.getD q 0) b hxq)
  have hgw : g < w.heap.size := h1.lt
  have hblw : bl < w.heap.size := World.block_lt_of_cell? w _ d1
  have hblw' : bl' < w.heap.size := World.block_lt_of_cell? w _ d2
  have HV := hid hV
  have hle : rankN nulls (r + 1) ≤ r + 1 := by unfold rankN; have := List.length_filter_le (bitOf nulls) (List.range (r + 1)); rwa [List.length_range] at this
  have hlt : bitOf nulls r = false → rankN nulls (r + 1) ≤ r := by
    intro h0
    rw [rankN_succ, h0]
    unfold rankN; have := List.length_filter_le (bitOf nulls) (List.range r); rw [List.length_range] at this; simpa using this
  have HLT := hid hlt
  rw [hbit] at HV HLT
  rw [hbit]
  have HNUM := hid (fun (w2 : World) (hbw : Below w.heap.size w w2) => number_S w2 g rows codec wd nulls count list ends base lanes r (h.mono hbw) hbm hnv hrr hr)
  generalize rankN nulls (r + 1) = rk at *
  generalize nulls.getD q 0 = y at *
  have HLE := hid hle
  clear hle hbm h1 h2 h3 h4 h5 h6 hs hs' hA hA' hV hlt hbit hnv h hq hb
  have hg1 : g ≠ w.heap.size := by omega
  have hg2 : bl ≠ w.heap.size := by omega
  have hg3 : bl' ≠ w.heap.size := by omega
  cases hbv : y.testBit b with
  | true =>
    have hbt : (bits BinOp.and IntKind.u64 ((y : Int) / 2 ^ b) 1 == 1) = true := by rw [HBT.out, hbv]
    clear HV HNUM HLT HBT
    go_enter Tryz.func74, Tryz.ntmps74
    go_wp2
    refine bodyPost_ret (v := aggv cellN) ?_ rfl ⟨rfl, (brefl w).alloc (Nat.le_refl _) _⟩
    simp [results, Tryz.results74, go_sem]
    rfl
  | false =>
    have hbt : (bits BinOp.and IntKind.u64 ((y : Int) / 2 ^ b) 1 == 1) = false := by rw [HBT.out, hbv]
    have hrkr := HLT.out hbv
    have hV2 := HV.out hbv
    have HV2 := hid hV2
    have hj : (r : Int) - (rk : Int) = ((r - rk : Nat) : Int) := by omega
    rw [hj] at HNUM
    have hmv := m_Cell_S
    clear HBT HV HLT hV2 hj
    go_enter Tryz.func74, Tryz.ntmps74
    go_wp2
    have HB2 : Hid (Below w.heap.size w (w.alloc (.cells #[.bool false, .int .i64 0, .string ByteArray.empty] 38))) := hid ((brefl w).alloc (Nat.le_refl _) _)
    have HR2 : Hid (Row (w.alloc (.cells #[.bool false, .int .i64 0, .string ByteArray.empty] 38)) w.heap.size 38 [.bool false, .int .i64 0, .string ByteArray.empty]) := hid (by unfold Row; rw [heap_alloc_new])
    have k9 := (HB2.out.cell (p := ⟨g, 9, none⟩) hgw).trans c9
    have hempty : ({ data := #[] } : ByteArray) = ByteArray.empty := rfl
    rw [hempty]
    clear c9 c10 c3 c3' d1 d2 hempty hrkr hbt hbv HLE
    generalize w.alloc (.cells #[.bool false, .int .i64 0, .string ByteArray.empty] 38) = w2 at *
    unfold vS at HV2
    obtain ⟨p, hp⟩ : ∃ p, w.heap.size = p := ⟨_, rfl⟩
    have HP := hid hp
    rw [hp] at HR2 hg1 ⊢
    clear hp
    go_upto_region 3 with fail
    go_region_held3 (fun w' => w'.cell? ⟨g, 9, none⟩ = some (.iface 44 (.agg #[]))) (first | go_keep | (rw [cell_set3 _ _ _ _ _ _ _ hg1]; assumption))
      (first
        | (go_at_call 103; refine (HNUM.out _ (bdrew HB2.out 1)).mono ?_; rintro e w3 ⟨rfl, hb3⟩; have hz3 : w.heap.size ≤ (w2.drewN 1).heap.size := HB2.out.size; have HB3 := hid ((bdrew HB2.out 1).trans (hb3.mono hz3)); have HR3 := hid ((HR2.out.drewN 1).mono hb3); have k93 := (hb3.cell (p := ⟨g, 9, none⟩) (Nat.lt_of_lt_of_le hgw hz3)).trans k9; have hz33 : w.heap.size ≤ w3.heap.size := HB3.out.size; clear hb3)
        | (go_at_call 102; refine (HV2.out _ HB3.out).mono ?_; rintro e w4 ⟨rfl, hb4⟩; have HB4 := hid (HB3.out.trans (hb4.mono hz33)); have HR4 := hid (HR3.out.mono hb4); have k94 := (hb4.cell (p := ⟨g, 9, none⟩) (Nat.lt_of_lt_of_le hgw hz33)).trans k93; have hz44 : w.heap.size ≤ w4.heap.size := HB4.out.size; clear hb4)
        | (go_at_call 216; refine (CellRaw_S x _).mono ?_; rintro e w5 ⟨rfl, hb5⟩; have HB5 := hid (HB4.out.trans (hb5.mono hz44)); have hr5 := HR4.out.mono hb5; have HR5 := hid hr5; have k95 := (hb5.cell (p := ⟨g, 9, none⟩) (Nat.lt_of_lt_of_le hgw hz44)).trans k94; have q0 : w5.cell? ⟨p, 0, none⟩ = some (.bool false) := (by rw [hr5.cell]; rfl); have q1 : w5.cell? ⟨p, 1, none⟩ = some (.int .i64 0) := (by rw [hr5.cell]; rfl); have q2 : w5.cell? ⟨p, 2, none⟩ = some (.string ByteArray.empty) := (by rw [hr5.cell]; rfl); have f0 := hr5.frozen 0; have f1 := hr5.frozen 1; have f2 := hr5.frozen 2; clear hb5 hr5))
    all_goals go_wp2_with fail
    all_goals change bodyPost _ _ _ _ _ (setc3 w5 p (cellS x))
    all_goals have HRF : Hid (Row (setc3 w5 p (cellS x)) p 38 (cellS x)) := hid (row_setc3 HR5.out _ _ _)
    all_goals have HBF := hid (below_setc3 HB5.out p (Nat.le_of_eq HP.out) (cellS x))
    all_goals generalize setc3 w5 p (cellS x) = w6 at *
    all_goals have r0 : w6.cell? ⟨p, 0, none⟩ = (cellS x)[0]? := HRF.out.cell 0
    all_goals have r1 : w6.cell? ⟨p, 1, none⟩ = (cellS x)[1]? := HRF.out.cell 1
    all_goals have r2 : w6.cell? ⟨p, 2, none⟩ = (cellS x)[2]? := HRF.out.cell 2
    all_goals refine bodyPost_ret (v := aggv (cellS x)) ?_ rfl ⟨rfl, HBF.out⟩
    all_goals simp only [cellS, List.getElem?_cons_zero, List.getElem?_cons_succ] at r0 r1 r2
    all_goals simp [results, Tryz.results74, go_sem, r0, r1, r2]
    all_goals rfl
end Go.Proofs.YtdlkdiaobbakiaaGreatDoor
