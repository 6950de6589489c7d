/- Package chunk: lists of cells. -/
import Derived.Test.YtdlkdiaobbakiaaGreatDoorCelI
set_option linter.unusedVariables false
set_option linter.unusedSimpArgs false
set_option linter.unnecessarySimpa false
set_option maxRecDepth 100000
namespace Go.Proofs.YtdlkdiaobbakiaaGreatDoor
open Go.RowKit

set_option maxHeartbeats 4000000 in
theorem Cells_I (w : World) (g : Nat) (rows : Nat) (A : Nat → Bool) (B : Nat → Int) (C : Nat → ByteArray) (hr0 : w.cell? ⟨g, 0 + 0, none⟩ = some (.int .i64 rows)) (hrr : rows ≤ 65536)
    (hC : ∀ r, r < rows → ∀ w2, Below w.heap.size w w2 → Calls Tryz.prog 76 #[.pointer (some ⟨g, 0, none⟩), .int .i64 r] w2 fun e w' => e = .returned (.agg #[.bool (A r), .int .i64 (B r), .string (C r)]) ∧ Below w2.heap.size w2 w') :
    Calls Tryz.prog 45 #[.pointer (some ⟨g, 0, none⟩)] w fun e w' => ∃ p, w.heap.size ≤ p ∧ e = .returned (.slice (some ⟨p, 0, none⟩) rows rows) ∧ Row w' p 38 (cellsUp A B C rows) ∧ Below w.heap.size w w' := by
  have hr00 : w.cell? ⟨g, 0, none⟩ = some (.int .i64 rows) := hr0
  have HC := hid hC
  clear hC
  go_enter Tryz.func45, Tryz.ntmps45
  go_wp2
  refine upon_make3 38 [.bool false, .int .i64 0, .string ByteArray.empty] 32 Tryz.underlying26 Tryz.infoCell rfl rows (by omega) (by omega) (by omega) (by unfold maxLen; omega) ?_
  intro w1 cs0 hlen hrow hb1 hsz1
  obtain ⟨q, hq⟩ : ∃ q, w.heap.size = q := ⟨_, rfl⟩
  have HQ := hid hq
  rw [hq] at hrow hsz1 ⊢
  have HROW := hid hrow; have HB1 := hid hb1
  clear hrow hb1 hq
  go_wp2
  go_loopw [12] (fun i wr => ∃ j : Nat, j ≤ rows ∧ i = .int .i64 j ∧ Row wr q 38 (cellsUp A B C j ++ cs0.drop (j * 3)) ∧ Below w.heap.size w wr ∧ Hid (q < wr.heap.size)) (fun i _ => rows - (intOf i).toNat)
  case atStart => exact ⟨0, by omega, rfl, by simpa [cellsUp] using HROW.out, HB1.out, hid (by omega)⟩
  case round =>
    obtain ⟨j, hj, rfl, hr, hb, hz⟩ := hrel
    by_cases hlt : j < rows
    · have HR := hid hr
      have HBB := hid hb
      clear hr hb
      go_wp2_with fail
      refine (HC.out j hlt wr HBB.out).mono ?_
      rintro e w3 ⟨rfl, hb3⟩
      have HB3 := hid (HBB.out.trans (hb3.mono HBB.out.size))
      have hr3 := HR.out.mono hb3
      have HR3 := hid hr3
      have hz3 : q < w3.heap.size := Nat.lt_of_lt_of_le hz.out hb3.size
      obtain ⟨x0, x1, x2, q0, q1, q2⟩ := row_three hr3 (j * 3) (by rw [List.length_append, cellsUp_length, List.length_drop]; omega)
      have f0 := hr3.frozen (j * 3); have f1 := hr3.frozen (j * 3 + 1); have f2 := hr3.frozen (j * 3 + 2)
      have HSET : Hid (Row (((w3.setCell ⟨q, j * 3, none⟩ (.bool (A j))).setCell ⟨q, j * 3 + 1, none⟩ (.int .i64 (B j))).setCell ⟨q, j * 3 + 2, none⟩ (.string (C j))) q 38 (cellsUp A B C (j + 1) ++ cs0.drop ((j + 1) * 3))) := by
        refine hid ?_
        have := ((hr3.set (j * 3) (.bool (A j))).set (j * 3 + 1) (.int .i64 (B j))).set (j * 3 + 2) (.string (C j))
        rw [set_three _ _ _ (cellsUp_length A B C j) (by rw [List.length_drop]; omega), List.drop_drop] at this
        rw [show (j + 1) * 3 = j * 3 + 3 by omega]
        exact this
      clear hb3 hr3 HR HBB HR3 HC
      generalize A j = xa at *
      generalize B j = xb at *
      generalize C j = xc at *
      go_wp2_with fail
      go_roundw
      case rel =>
        refine ⟨j + 1, by omega, by go_num, HSET.out, below_set (below_set (below_set HB3.out _ _ _ (Nat.le_of_eq HQ.out)) _ _ _ (Nat.le_of_eq HQ.out)) _ _ _ (Nat.le_of_eq HQ.out), hid (by simpa [World.setCell] using hz3)⟩
      case measure => simp [intOf]; omega
    · obtain rfl : j = rows := by omega
      go_wp2
      go_ret
      refine ⟨q, Nat.le_of_eq HQ.out, rfl, ?_, hb⟩
      rw [List.drop_of_length_le (by omega), List.append_nil] at hr
      exact hr
set_option maxHeartbeats 4000000 in
theorem Gather_I (w : World) (g : Nat) (v : Value) (ps : List Int) (A : Nat → Bool) (B : Nat → Int) (C : Nat → ByteArray) (hv : Rd w v ps.length 1 (i64s ps)) (hpl : ps.length ≤ 65536)
    (hC : ∀ r, r < ps.length → ∀ w2, Below w.heap.size w w2 → Calls Tryz.prog 76 #[.pointer (some ⟨g, 0, none⟩), .int .i64 (ps.getD r 0)] w2 fun e w' => e = .returned (.agg #[.bool (A r), .int .i64 (B r), .string (C r)]) ∧ Below w2.heap.size w2 w') :
    Calls Tryz.prog 52 #[.pointer (some ⟨g, 0, none⟩), v] w fun e w' => ∃ p, w.heap.size ≤ p ∧ e = .returned (.slice (some ⟨p, 0, none⟩) ps.length ps.length) ∧ Row w' p 38 (cellsUp A B C ps.length) ∧ Below w.heap.size w w' := by
  have HV := hid hv
  obtain ⟨AA, ca, rfl, hlc, hcm, hAA⟩ := hv.form
  clear hv hAA
  have HC := hid hC
  clear hC
  go_enter Tryz.func52, Tryz.ntmps52
  go_wp2
  refine upon_make3 38 [.bool false, .int .i64 0, .string ByteArray.empty] 32 Tryz.underlying26 Tryz.infoCell rfl ps.length (by omega) (by omega) (by omega) (by unfold maxLen; omega) ?_
  intro w1 cs0 hlen hrow hb1 hsz1
  obtain ⟨q, hq⟩ : ∃ q, w.heap.size = q := ⟨_, rfl⟩
  have HQ := hid hq
  rw [hq] at hrow hsz1 ⊢
  have HROW := hid hrow; have HB1 := hid hb1
  clear hrow hb1 hq
  go_wp2
  go_loopw [13] (fun i wr => ∃ j : Nat, j ≤ ps.length ∧ i = .int .i64 j ∧ Row wr q 38 (cellsUp A B C j ++ cs0.drop (j * 3)) ∧ Below w.heap.size w wr ∧ Hid (q < wr.heap.size)) (fun i _ => ps.length - (intOf i).toNat)
  case atStart => exact ⟨0, by omega, rfl, by simpa [cellsUp] using HROW.out, HB1.out, hid (by omega)⟩
  case round =>
    obtain ⟨j, hj, rfl, hr, hb, hz⟩ := hrel
    by_cases hlt : j < ps.length
    · have HR := hid hr
      have HBB := hid hb
      clear hr hb
      obtain ⟨AA', ca', he, _, _, hAA'⟩ := (HV.out.mono HBB.out).form
      cases he
      obtain ⟨bb, oo, rfl, hss⟩ := hAA' (by omega)
      have d1 := hss.int j hlt
      have HCJ := hid (HC.out j hlt)
      clear hss hAA'
      generalize ps.getD j 0 = pj at *
      go_wp2_with fail
      refine (HCJ.out wr HBB.out).mono ?_
      rintro e w3 ⟨rfl, hb3⟩
      have HB3 := hid (HBB.out.trans (hb3.mono HBB.out.size))
      have hr3 := HR.out.mono hb3
      have HR3 := hid hr3
      have hz3 : q < w3.heap.size := Nat.lt_of_lt_of_le hz.out hb3.size
      obtain ⟨x0, x1, x2, q0, q1, q2⟩ := row_three hr3 (j * 3) (by rw [List.length_append, cellsUp_length, List.length_drop]; omega)
      have f0 := hr3.frozen (j * 3); have f1 := hr3.frozen (j * 3 + 1); have f2 := hr3.frozen (j * 3 + 2)
      have HSET : Hid (Row (((w3.setCell ⟨q, j * 3, none⟩ (.bool (A j))).setCell ⟨q, j * 3 + 1, none⟩ (.int .i64 (B j))).setCell ⟨q, j * 3 + 2, none⟩ (.string (C j))) q 38 (cellsUp A B C (j + 1) ++ cs0.drop ((j + 1) * 3))) := by
        refine hid ?_
        have := ((hr3.set (j * 3) (.bool (A j))).set (j * 3 + 1) (.int .i64 (B j))).set (j * 3 + 2) (.string (C j))
        rw [set_three _ _ _ (cellsUp_length A B C j) (by rw [List.length_drop]; omega), List.drop_drop] at this
        rw [show (j + 1) * 3 = j * 3 + 3 by omega]
        exact this
      clear hb3 hr3 HR HBB HR3 HC HCJ
      generalize A j = xa at *
      generalize B j = xb at *
      generalize C j = xc at *
      go_wp2_with fail
      go_roundw
      case rel =>
        refine ⟨j + 1, by omega, by go_num, HSET.out, below_set (below_set (below_set HB3.out _ _ _ (Nat.le_of_eq HQ.out)) _ _ _ (Nat.le_of_eq HQ.out)) _ _ _ (Nat.le_of_eq HQ.out), hid (by simpa [World.setCell] using hz3)⟩
      case measure => simp [intOf]; omega
    · obtain rfl : j = ps.length := by omega
      go_wp2
      go_ret
      refine ⟨q, Nat.le_of_eq HQ.out, rfl, ?_, hb⟩
      rw [List.drop_of_length_le (by omega), List.append_nil] at hr
      exact hr
end Go.Proofs.YtdlkdiaobbakiaaGreatDoor
