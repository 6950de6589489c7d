/- LawMerge's walk. -/
import Derived.Test.YtgobcaianpmbiabMrg3
import Derived.Deep.RegionHeld3
import Derived.Deep.DeepMust
import Derived.Deep.CutRange
set_option linter.unusedVariables false
set_option linter.unusedSimpArgs false
set_option linter.unnecessarySimpa false
set_option maxRecDepth 200000
namespace Go.Proofs.Ytgobcaianpmbiab
open Go.RowKit

theorem wrap64_range (n : Int) : -9223372036854775808 ≤ wrap64 n ∧ wrap64 n < 9223372036854775808 := by unfold wrap64; omega
theorem Row9 {w : World} {g : Nat} {e : TypeId} (p : P9) (h : Row w g e p.vs) :
    w.cell? ⟨g, 0, none⟩ = some (.int .i64 p.ct) ∧ w.cell? ⟨g, 1, none⟩ = some (.int .i64 p.hi) ∧ w.cell? ⟨g, 2, none⟩ = some (.int .u64 p.lo) ∧ w.cell? ⟨g, 3, none⟩ = some (.bool p.mn.n) ∧ w.cell? ⟨g, 4, none⟩ = some (.int .i64 p.mn.i) ∧ w.cell? ⟨g, 5, none⟩ = some (.string p.mn.s) ∧ w.cell? ⟨g, 6, none⟩ = some (.bool p.mx.n) ∧ w.cell? ⟨g, 7, none⟩ = some (.int .i64 p.mx.i) ∧ w.cell? ⟨g, 8, none⟩ = some (.string p.mx.s) := row9 h
set_option maxHeartbeats 4000000 in
theorem lawMerge_walk (a b : P9) (w : World) (ha : a.lo < 18446744073709551616) (hb : b.lo < 18446744073709551616) (ha2 : -9223372036854775808 ≤ a.hi ∧ a.hi < 9223372036854775808) :
    Calls Try.prog 3 #[a.v, b.v] w fun e w' => e = .returned (.bool true) ∧ Below w.heap.size w w' := by
  have HM := hid (fun w2 : World => Merge_any a b w2 ha hb)
  have HRM := hid (fun w2 : World => refMerge_any a b w2 ha hb)
  have hmlo : (mergeP a b).lo < 18446744073709551616 := Nat.mod_lt _ (by decide)
  have hmhi := wrap64_range (a.hi + b.hi + ((a.lo + b.lo) / 18446744073709551616 : Nat))
  have HT1 := hid (fun w2 : World => Total_any (mergeP a b) w2 hmlo hmhi)
  have HRT1 := hid (fun w2 : World => refTotal_any (mergeP a b) w2 hmlo hmhi)
  have HT2 := hid (fun w2 : World => Total_any a w2 ha ha2)
  have HRT2 := hid (fun w2 : World => refTotal_any a w2 ha ha2)
  generalize mergeP a b = m at *
  generalize totC m = tm at *
  generalize totE m = em at *
  generalize totC a = ta at *
  generalize totE a = ea at *
  clear ha hb ha2 hmlo hmhi
  obtain ⟨act, ahi, alo, ⟨amnn, amni, amns⟩, ⟨amxn, amxi, amxs⟩⟩ := a
  obtain ⟨bct, bhi, blo, ⟨bmnn, bmni, bmns⟩, ⟨bmxn, bmxi, bmxs⟩⟩ := b
  obtain ⟨mct, mhi, mlo, ⟨mmnn, mmni, mmns⟩, ⟨mmxn, mmxi, mmxs⟩⟩ := m
  obtain ⟨tmn, tmi, tms⟩ := tm
  obtain ⟨tan, tai, tas⟩ := ta
  unfold P9.v C3.v at *
  simp only at *
  go_enter Try.func3, Try.ntmps3
  obtain ⟨ra, rb, hbw, hsz⟩ := rows2 (u := w) (X := #[.int .i64 act, .int .i64 ahi, .int .u64 alo, .bool amnn, .int .i64 amni, .string amns, .bool amxn, .int .i64 amxi, .string amxs]) (Y := #[.int .i64 bct, .int .i64 bhi, .int .u64 blo, .bool bmnn, .int .i64 bmni, .string bmns, .bool bmxn, .int .i64 bmxi, .string bmxs]) (eX := 26) (eY := 26)
  have HRA := hid ra; have HRB := hid rb; have HBW := hid hbw; have HSZ := hid hsz
  clear ra rb hbw hsz
  go_upto_region 2 with (go_at_call 5; refine (HM.out _).mono ?_; rintro e w1 ⟨rfl, hb1⟩; have HRA1 := hid (HRA.out.mono hb1); have HRB1 := hid (HRB.out.mono hb1); have HBW1 : Hid (Below w.heap.size w w1) := hid (Below.then' HBW.out hb1 HBW.out.size); have HSZ1 : Hid (w.heap.size + 1 < w1.heap.size) := hid (by have := hb1.size; have := HSZ.out; omega); clear hb1 HRA HRB HBW HSZ)
  have HRA2 := hid (HRA1.out.mono ((brefl w1).alloc (Nat.le_refl _) (.cells #[.int .i64 mct, .int .i64 mhi, .int .u64 mlo, .bool mmnn, .int .i64 mmni, .string mmns, .bool mmxn, .int .i64 mmxi, .string mmxs] 26)))
  have HRB2 := hid (HRB1.out.mono ((brefl w1).alloc (Nat.le_refl _) (.cells #[.int .i64 mct, .int .i64 mhi, .int .u64 mlo, .bool mmnn, .int .i64 mmni, .string mmns, .bool mmxn, .int .i64 mmxi, .string mmxs] 26)))
  have HRM2 : Hid (Row (w1.alloc (.cells #[.int .i64 mct, .int .i64 mhi, .int .u64 mlo, .bool mmnn, .int .i64 mmni, .string mmns, .bool mmxn, .int .i64 mmxi, .string mmxs] 26)) w1.heap.size 26 [.int .i64 mct, .int .i64 mhi, .int .u64 mlo, .bool mmnn, .int .i64 mmni, .string mmns, .bool mmxn, .int .i64 mmxi, .string mmxs]) := hid (by unfold Row; rw [heap_alloc_new])
  have HBW2 : Hid (Below w.heap.size w (w1.alloc (.cells #[.int .i64 mct, .int .i64 mhi, .int .u64 mlo, .bool mmnn, .int .i64 mmni, .string mmns, .bool mmxn, .int .i64 mmxi, .string mmxs] 26))) := hid (HBW1.out.alloc HBW1.out.size _)
  have hgm : w.heap.size + 1 < w1.heap.size := HSZ1.out
  clear HRA1 HRB1 HBW1 HSZ1 HM
  generalize w1.alloc (.cells #[.int .i64 mct, .int .i64 mhi, .int .u64 mlo, .bool mmnn, .int .i64 mmni, .string mmns, .bool mmxn, .int .i64 mmxi, .string mmxs] 26) = w2 at *
  generalize w1.heap.size = gm at *
  obtain ⟨a0, a1, a2, a3, a4, a5, a6, a7, a8⟩ := row9 HRA2.out
  obtain ⟨b0, b1, b2, b3, b4, b5, b6, b7, b8⟩ := row9 HRB2.out
  obtain ⟨m0, m1, m2, m3, m4, m5, m6, m7, m8⟩ := row9 HRM2.out
  go_cut [17] from 13 (fun s17 wc => s17 = .bool false ∧ Hid (Row wc w.heap.size 26 [.int .i64 act, .int .i64 ahi, .int .u64 alo, .bool amnn, .int .i64 amni, .string amns, .bool amxn, .int .i64 amxi, .string amxs]) ∧ Hid (Row wc gm 26 [.int .i64 mct, .int .i64 mhi, .int .u64 mlo, .bool mmnn, .int .i64 mmni, .string mmns, .bool mmxn, .int .i64 mmxi, .string mmxs]) ∧ Hid (Below w.heap.size w wc))
  case first =>
    go_region_held3 (fun w' => w'.cell? ⟨w.heap.size, 0, none⟩ = some (.int .i64 act) ∧ w'.cell? ⟨w.heap.size, 1, none⟩ = some (.int .i64 ahi) ∧ w'.cell? ⟨w.heap.size, 2, none⟩ = some (.int .u64 alo) ∧ w'.cell? ⟨w.heap.size, 3, none⟩ = some (.bool amnn) ∧ w'.cell? ⟨w.heap.size, 4, none⟩ = some (.int .i64 amni) ∧ w'.cell? ⟨w.heap.size, 5, none⟩ = some (.string amns) ∧ w'.cell? ⟨w.heap.size, 6, none⟩ = some (.bool amxn) ∧ w'.cell? ⟨w.heap.size, 7, none⟩ = some (.int .i64 amxi) ∧ w'.cell? ⟨w.heap.size, 8, none⟩ = some (.string amxs) ∧ w'.cell? ⟨w.heap.size + 1, 0, none⟩ = some (.int .i64 bct) ∧ w'.cell? ⟨w.heap.size + 1, 1, none⟩ = some (.int .i64 bhi) ∧ w'.cell? ⟨w.heap.size + 1, 2, none⟩ = some (.int .u64 blo) ∧ w'.cell? ⟨w.heap.size + 1, 3, none⟩ = some (.bool bmnn) ∧ w'.cell? ⟨w.heap.size + 1, 4, none⟩ = some (.int .i64 bmni) ∧ w'.cell? ⟨w.heap.size + 1, 5, none⟩ = some (.string bmns) ∧ w'.cell? ⟨w.heap.size + 1, 6, none⟩ = some (.bool bmxn) ∧ w'.cell? ⟨w.heap.size + 1, 7, none⟩ = some (.int .i64 bmxi) ∧ w'.cell? ⟨w.heap.size + 1, 8, none⟩ = some (.string bmxs) ∧ w'.cell? ⟨gm, 0, none⟩ = some (.int .i64 mct) ∧ w'.cell? ⟨gm, 1, none⟩ = some (.int .i64 mhi) ∧ w'.cell? ⟨gm, 2, none⟩ = some (.int .u64 mlo) ∧ w'.cell? ⟨gm, 3, none⟩ = some (.bool mmnn) ∧ w'.cell? ⟨gm, 4, none⟩ = some (.int .i64 mmni) ∧ w'.cell? ⟨gm, 5, none⟩ = some (.string mmns) ∧ w'.cell? ⟨gm, 6, none⟩ = some (.bool mmxn) ∧ w'.cell? ⟨gm, 7, none⟩ = some (.int .i64 mmxi) ∧ w'.cell? ⟨gm, 8, none⟩ = some (.string mmxs)) (go_keep)
      (first | (go_at_call 6; refine (HRM.out _).mono ?_; rintro e w3 ⟨rfl, hb3⟩; have HB3 := hid hb3; have HRA3 := hid (HRA2.out.mono ((bdrew (brefl w2) _).trans hb3)); have HRB3 := hid (HRB2.out.mono ((bdrew (brefl w2) _).trans hb3)); have HRM3 := hid (HRM2.out.mono ((bdrew (brefl w2) _).trans hb3)); obtain ⟨p0, p1, p2, p3, p4, p5, p6, p7, p8⟩ := row9 HRA3.out; obtain ⟨q0, q1, q2, q3, q4, q5, q6, q7, q8⟩ := row9 HRB3.out; obtain ⟨r0, r1, r2, r3, r4, r5, r6, r7, r8⟩ := row9 HRM3.out; clear hb3))
    all_goals (go_wp2_with fail; go_meet)
    exact ⟨rfl, HRA3, HRM3, hid (Below.then' HBW2.out ((bdrew (brefl w2) _).trans HB3.out) HBW2.out.size)⟩
  case rest =>
    obtain ⟨rfl, HRA3, HRM3, HBW3⟩ := hcut
    clear a0 a1 a2 a3 a4 a5 a6 a7 a8 b0 b1 b2 b3 b4 b5 b6 b7 b8 m0 m1 m2 m3 m4 m5 m6 m7 m8 HRA2 HRB2 HRM2 HBW2 HRM
    obtain ⟨m0, m1, m2, m3, m4, m5, m6, m7, m8⟩ := row9 HRM3.out
    go_upto_region 5 with (go_at_call 7; refine (HT1.out _).mono ?_; rintro e w4 ⟨rfl, hb4⟩; have HRA4 := hid (HRA3.out.mono hb4); have HRM4 := hid (HRM3.out.mono hb4); have HBW4 : Hid (Below w.heap.size w w4) := hid (Below.then' HBW3.out hb4 HBW3.out.size); clear hb4 HT1)
    have HRA5 := hid (HRA4.out.mono ((brefl w4).alloc (Nat.le_refl _) (.cells #[.bool tmn, .int .i64 tmi, .string tms] 24)))
    have HRM5 := hid (HRM4.out.mono ((brefl w4).alloc (Nat.le_refl _) (.cells #[.bool tmn, .int .i64 tmi, .string tms] 24)))
    have HT5 : Hid (Row (w4.alloc (.cells #[.bool tmn, .int .i64 tmi, .string tms] 24)) w4.heap.size 24 [.bool tmn, .int .i64 tmi, .string tms]) := hid (by unfold Row; rw [heap_alloc_new])
    have HBW5 : Hid (Below w.heap.size w (w4.alloc (.cells #[.bool tmn, .int .i64 tmi, .string tms] 24))) := hid (HBW4.out.alloc HBW4.out.size _)
    have hgt : w.heap.size ≤ w4.heap.size := HBW4.out.size
    have hgt2 : gm < w4.heap.size := HRM4.out.lt
    have hga2 : w.heap.size < w4.heap.size := HRA4.out.lt
    clear HRA4 HRM4 HBW4 HRA3 HRM3 HBW3 m0 m1 m2 m3 m4 m5 m6 m7 m8
    generalize w4.alloc (.cells #[.bool tmn, .int .i64 tmi, .string tms] 24) = w5 at *
    generalize w4.heap.size = gt at *
    obtain ⟨m0, m1, m2, m3, m4, m5, m6, m7, m8⟩ := row9 HRM5.out
    go_upto_region 6 with (go_at_call 8; refine (HRT1.out _).mono ?_; rintro e w6 ⟨rfl, hb6⟩; have HRA6 := hid (HRA5.out.mono hb6); have HRM6 := hid (HRM5.out.mono hb6); have HT6 := hid (HT5.out.mono hb6); have HBW6 : Hid (Below w.heap.size w w6) := hid (Below.then' HBW5.out hb6 HBW5.out.size); clear hb6 HRT1)
    have HRA7 := hid (HRA6.out.mono ((brefl w6).alloc (Nat.le_refl _) (.cells #[.bool tmn, .int .i64 tmi, .string tms] 24)))
    have HT7 := hid (HT6.out.mono ((brefl w6).alloc (Nat.le_refl _) (.cells #[.bool tmn, .int .i64 tmi, .string tms] 24)))
    have HD7 : Hid (Row (w6.alloc (.cells #[.bool tmn, .int .i64 tmi, .string tms] 24)) w6.heap.size 24 [.bool tmn, .int .i64 tmi, .string tms]) := hid (by unfold Row; rw [heap_alloc_new])
    have HBW7 : Hid (Below w.heap.size w (w6.alloc (.cells #[.bool tmn, .int .i64 tmi, .string tms] 24))) := hid (HBW6.out.alloc HBW6.out.size _)
    have hgd : gt < w6.heap.size := HT6.out.lt
    have hgd2 : w.heap.size < w6.heap.size := HRA6.out.lt
    clear HRA5 HRM5 HBW5 HT5 HRA6 HRM6 HBW6 HT6 m0 m1 m2 m3 m4 m5 m6 m7 m8
    generalize w6.alloc (.cells #[.bool tmn, .int .i64 tmi, .string tms] 24) = w7 at *
    generalize w6.heap.size = gd at *
    have x0 : w7.cell? ⟨gt, 0, none⟩ = some (.bool tmn) := by rw [HT7.out.cell]; rfl
    have x1 : w7.cell? ⟨gt, 1, none⟩ = some (.int .i64 tmi) := by rw [HT7.out.cell]; rfl
    have x2 : w7.cell? ⟨gt, 2, none⟩ = some (.string tms) := by rw [HT7.out.cell]; rfl
    have y0 : w7.cell? ⟨gd, 0, none⟩ = some (.bool tmn) := by rw [HD7.out.cell]; rfl
    have y1 : w7.cell? ⟨gd, 1, none⟩ = some (.int .i64 tmi) := by rw [HD7.out.cell]; rfl
    have y2 : w7.cell? ⟨gd, 2, none⟩ = some (.string tms) := by rw [HD7.out.cell]; rfl
    obtain ⟨a0, a1, a2, a3, a4, a5, a6, a7, a8⟩ := row9 HRA7.out
    have heq : (em != em) = false := by simp
    go_upto_region 9 with (go_at_call 7; refine (HT2.out _).mono ?_; rintro e w8 ⟨rfl, hb8⟩; have HRA8 := hid (HRA7.out.mono hb8); have HT8 := hid (HT7.out.mono hb8); have HD8 := hid (HD7.out.mono hb8); have HBW8 : Hid (Below w.heap.size w w8) := hid (Below.then' HBW7.out hb8 HBW7.out.size); have z0 : w8.cell? ⟨gt, 0, none⟩ = some (.bool tmn) := (by rw [HT8.out.cell]; rfl); have z1 : w8.cell? ⟨gt, 1, none⟩ = some (.int .i64 tmi) := (by rw [HT8.out.cell]; rfl); have z2 : w8.cell? ⟨gt, 2, none⟩ = some (.string tms) := (by rw [HT8.out.cell]; rfl); have f0 := HT8.out.frozen 0; have f1 := HT8.out.frozen 1; have f2 := HT8.out.frozen 2; clear hb8 HT2)
    have HT9 := hid (((HT8.out.set 0 (.bool tan)).set 1 (.int .i64 tai)).set 2 (.string tas))
    have HA9 := hid (((HRA8.out.other (a := ⟨gt, 0, none⟩) (.bool tan) (by simp; omega)).other (a := ⟨gt, 1, none⟩) (.int .i64 tai) (by simp; omega)).other (a := ⟨gt, 2, none⟩) (.string tas) (by simp; omega))
    have HD9 := hid (((HD8.out.other (a := ⟨gt, 0, none⟩) (.bool tan) (by simp; omega)).other (a := ⟨gt, 1, none⟩) (.int .i64 tai) (by simp; omega)).other (a := ⟨gt, 2, none⟩) (.string tas) (by simp; omega))
    have HB9 := hid (below_set (below_set (below_set HBW8.out gt 0 (.bool tan) hgt) gt 1 (.int .i64 tai) hgt) gt 2 (.string tas) hgt)
    clear HRA7 HT7 HD7 HBW7 HRA8 HT8 HD8 HBW8 x0 x1 x2 y0 y1 y2 z0 z1 z2 f0 f1 f2 a0 a1 a2 a3 a4 a5 a6 a7 a8
    revert HT9 HA9 HD9 HB9
    generalize World.setCell (World.setCell (World.setCell _ _ _) _ _) _ _ = w9
    intro HT9 HA9 HD9 HB9
    obtain ⟨a0, a1, a2, a3, a4, a5, a6, a7, a8⟩ := row9 HA9.out
    go_upto_region 10 with (go_at_call 8; refine (HRT2.out _).mono ?_; rintro e w8 ⟨rfl, hb8⟩; have HT8 := hid (HT9.out.mono hb8); have HD8 := hid (HD9.out.mono hb8); have HBW8 : Hid (Below w.heap.size w w8) := hid (Below.then' HB9.out hb8 HB9.out.size); have z0 : w8.cell? ⟨gd, 0, none⟩ = some (.bool tmn) := (by rw [HD8.out.cell]; rfl); have z1 : w8.cell? ⟨gd, 1, none⟩ = some (.int .i64 tmi) := (by rw [HD8.out.cell]; rfl); have z2 : w8.cell? ⟨gd, 2, none⟩ = some (.string tms) := (by rw [HD8.out.cell]; rfl); have f0 := HD8.out.frozen 0; have f1 := HD8.out.frozen 1; have f2 := HD8.out.frozen 2; clear hb8 HRT2)
    have HT10 := hid (((HT8.out.other (a := ⟨gd, 0, none⟩) (.bool tan) (by simp; omega)).other (a := ⟨gd, 1, none⟩) (.int .i64 tai) (by simp; omega)).other (a := ⟨gd, 2, none⟩) (.string tas) (by simp; omega))
    have HD10 := hid (((HD8.out.set 0 (.bool tan)).set 1 (.int .i64 tai)).set 2 (.string tas))
    have HB10 := hid (below_set (below_set (below_set HBW8.out gd 0 (.bool tan) (by omega)) gd 1 (.int .i64 tai) (by omega)) gd 2 (.string tas) (by omega))
    clear HT9 HA9 HD9 HB9 HT8 HD8 HBW8 z0 z1 z2 f0 f1 f2 a0 a1 a2 a3 a4 a5 a6 a7 a8
    revert HT10 HD10 HB10
    generalize World.setCell (World.setCell (World.setCell _ _ _) _ _) _ _ = w9
    intro HT9 HD9 HB9
    have x0 : w9.cell? ⟨gt, 0, none⟩ = some (.bool tan) := by rw [HT9.out.cell]; rfl
    have x1 : w9.cell? ⟨gt, 1, none⟩ = some (.int .i64 tai) := by rw [HT9.out.cell]; rfl
    have x2 : w9.cell? ⟨gt, 2, none⟩ = some (.string tas) := by rw [HT9.out.cell]; rfl
    have y0 : w9.cell? ⟨gd, 0, none⟩ = some (.bool tan) := by rw [HD9.out.cell]; rfl
    have y1 : w9.cell? ⟨gd, 1, none⟩ = some (.int .i64 tai) := by rw [HD9.out.cell]; rfl
    have y2 : w9.cell? ⟨gd, 2, none⟩ = some (.string tas) := by rw [HD9.out.cell]; rfl
    have heq2 : (ea == ea) = true := by simp
    go_wp2_with fail
    go_ret
    exact ⟨rfl, HB9.out⟩
end Go.Proofs.Ytgobcaianpmbiab
