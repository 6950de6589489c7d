/- The law's own helpers over queries: layQuery. -/
import Derived.Test.YtioaeijogjcghaaLno3
set_option linter.unusedVariables false
set_option linter.unusedSimpArgs false
set_option linter.unnecessarySimpa false
set_option maxRecDepth 20000
namespace Go.Proofs.Ytioaeijogjcghaa
open Go.RowKit

theorem Try.infoAg : (Try.prog.info? 48).map (fun i => (i.zero, i.size, i.bytes)) = some (some (.agg [.int .i64 0, .int .i64 0].toArray), 2, 16) := by kernel_rfl
theorem make_ags (a m : Nat) (hk : a + m ≤ 1099511627776) : ∃ C : Array Value, C.toList.length = (a + m) * 2 ∧ ∀ w2 : World, Sem.run Try.prog (Instr.makeSlice 24 (.int .i64 ((a : Int) + (m : Int))) (.int .i64 ((a : Int) + (m : Int)))) w2 = .ok (.slice (some ⟨w2.heap.size, 0, none⟩) (a + m) (a + m)) (w2.alloc (.cells C 48)) := by
  obtain ⟨i, hi, hz0, hz1, hz2⟩ := info_parts Try.infoAg
  refine ⟨madeCells (Value.agg [.int .i64 0, .int .i64 0].toArray).cells ((a + m) * 2), by rw [Array.length_toList, size_madeCells], fun w2 => ?_⟩
  have hr := run_make (P := Try.prog) w2 24 48 i _ Try.underlying24 hi hz0 .i64 .i64 (((a + m : Nat) : Int)) (((a + m : Nat) : Int)) (by omega) (Int.le_refl _) (by rw [hz2]; omega) (by omega)
  simp only [Int.toNat_natCast, hz1] at hr
  rw [show (a : Int) + (m : Int) = ((a + m : Nat) : Int) by omega]
  exact hr
def tailG (n m : Nat) : List Ag := (List.range m).map fun j : Nat => ⟨-131 - ((n : Int) + (j : Int)), 0⟩
theorem tailG_succ (n j : Nat) : tailG n (j + 1) = tailG n j ++ [⟨-131 - ((n : Int) + (j : Int)), 0⟩] := by simp [tailG, List.range_succ]
theorem tailG_len (n m : Nat) : (tailG n m).length = m := by simp [tailG]
theorem two (cs : List Value) (h : 2 ≤ cs.length) : ∃ x y r, cs = x :: y :: r := by
  match cs, h with
  | x :: y :: r, _ => exact ⟨x, y, r, rfl⟩
theorem set2 (pre r : List Value) (x y a b : Value) (o : Nat) (ho : pre.length = o) : ((pre ++ x :: y :: r).set o a).set (o + 1) b = (pre ++ [a, b]) ++ r := by
  subst ho
  simp [List.set_append_right, List.set_append]
structure LaidQ (B : Nat) (w : World) (v : Value) (L : List Nd) (cs : List Int) (gs : List Ag) (m : Nat) (g gc g2 g3 : Nat) : Prop where
  val : v = .agg #[.slice (some ⟨g, 0, none⟩) (L.length + m) (L.length + m), .slice (some ⟨g2, 0, none⟩) (cs.length + m) (cs.length + m), .slice (some ⟨g3, 0, none⟩) (gs.length + m) (gs.length + m)]
  low : B ≤ g ∧ B ≤ gc ∧ B ≤ g2 ∧ B ≤ g3
  nodes : Row w g 56 (nodeVals (argsN L L.length + m) gc (L ++ tailN L.length m) (L.length + m))
  cells : Row w gc 37 (cells3 (flatA (L ++ tailN L.length m) (L.length + m)))
  cols : Row w g2 3 (i64s (cs ++ tailI m))
  aggs : Row w g3 48 (ags (gs ++ tailG gs.length m))
set_option maxHeartbeats 8000000 in
theorem layQuery_any (wv cv av : Value) (L : List Nd) (cs : List Int) (gs : List Ag) (r : Int) (w : World) (hx : NsIn w wv L) (hc : Rd w cv cs.length 1 (i64s cs)) (ha : Rd w av gs.length 2 (ags gs)) (hq : L.length ≤ 1048576) (hl : argsN L L.length ≤ 1048576) (hcl : cs.length ≤ 1048576) (hgl : gs.length ≤ 1048576) :
    Calls Try.prog 6 #[.agg #[wv, cv, av], .int .i64 r] w fun e w' => ∃ v g gc g2 g3, e = .returned v ∧ LaidQ w.heap.size w' v L cs gs (clipN r) g gc g2 g3 ∧ Below w.heap.size w w' := by
  have HA := hid ha
  have hmc := clipN_le r
  have HLN := hid (fun (w2 : World) (hb : Below w.heap.size w w2) => layNodes_any wv L r w2 (hx.mono hb) hq hl)
  have HLI := hid (fun (w2 : World) (hb : Below w.heap.size w w2) => layInts_any cv cs r w2 (hc.mono hb) (by omega))
  have HCL := hid (fun (w2 : World) => clip_any r w2)
  obtain ⟨m, hmr⟩ : ∃ m, clipN r = m := ⟨_, rfl⟩
  rw [hmr] at HLN HLI HCL hmc ⊢
  obtain ⟨A1, c1, rfl⟩ := hx.form
  obtain ⟨A2, c2, rfl, _, _, _⟩ := hc.form
  obtain ⟨A3, c3, rfl, hl3, hm3, _⟩ := ha.form
  clear hx hc ha hmr
  obtain ⟨n1, hn1⟩ : ∃ n, L.length = n := ⟨_, rfl⟩
  obtain ⟨n2, hn2⟩ : ∃ n, cs.length = n := ⟨_, rfl⟩
  obtain ⟨n3, hn3⟩ : ∃ n, gs.length = n := ⟨_, rfl⟩
  have HN1 := hid hn1; have HN2 := hid hn2; have HN3 := hid hn3
  rw [hn1] at HLN hq ⊢
  rw [hn2] at HLI hcl ⊢
  rw [hn3] at HA hl3 hgl ⊢
  clear hn1 hn2 hn3
  obtain ⟨CA, hCA, hmk⟩ := make_ags n3 m (by omega)
  have HCA := hid hCA
  clear hCA hl
  go_enter Try.func6, Try.ntmps6
  go_upto_region 1 with fail
  obtain ⟨ra, rz, hbw⟩ := rows2e (w := w) (X := #[.slice A1 n1 c1, .slice A2 n2 c2, .slice A3 n3 c3]) (Y := #[.slice none 0 0, .slice none 0 0, .slice none 0 0]) (eX := 26) (eY := 26) rfl
  have HRA := hid ra; have HRZ := hid rz; have HBW := hid hbw
  clear ra rz hbw
  generalize (w.alloc (.cells #[.slice A1 n1 c1, .slice A2 n2 c2, .slice A3 n3 c3] 26)).alloc (.cells #[.slice none 0 0, .slice none 0 0, .slice none 0 0] 26) = w0 at *
  obtain ⟨a0, a1, a2⟩ := cell3 HRA.out
  have hwz : w.heap.size + 1 < w0.heap.size := HRZ.out.lt
  have hwrap : IntKind.i64.wrap ((n3 : Int) + (m : Int)) = (n3 : Int) + (m : Int) := by rw [IntKind.wrap_i64]; omega
  go_region_held3 (fun w' => w'.cell? ⟨w.heap.size, 2, none⟩ = some (.slice A3 n3 c3)) (go_keep)
    (first | (go_at_call 20; refine (HCL.out _).mono ?_; rintro e w1 ⟨rfl, rfl⟩))
  have nd : ∀ (W : World) (b : Nat) (e : TypeId) (cs : List Value), Row W b e cs → Row W.drew b e cs := fun W b e cs h => h
  obtain ⟨rg, hbg⟩ := fresh (w := w0) (C := CA) (e := 48)
  have HRG2 := hid (nd _ _ _ _ rg)
  have HRA2 := hid (nd _ _ _ _ (HRA.out.mono hbg))
  have HRZ2 := hid (nd _ _ _ _ (HRZ.out.mono hbg))
  have HBW2 : Hid (Below w.heap.size w (w0.alloc (.cells CA 48)).drew) := hid (bdrew (Below.then' HBW.out hbg HBW.out.size) 1)
  have HAX := hid (HA.out.mono HBW2.out)
  have hwg : w.heap.size + 1 < w0.heap.size := hwz
  clear rg hbg HRA HRZ HBW a0 a1 a2 hmk
  generalize (w0.alloc (.cells CA 48)).drew = w2 at *
  generalize w0.heap.size = g3 at *
  obtain ⟨a0, a1, a2⟩ := cell3 HRA2.out
  go_wp2_with fail
  refine upon_copyS 48 2 Try.underlying24 (by kernel_rfl) HRG2.out HAX.out (oneCell_ags gs) (by omega) (by rw [HCA.out]; omega) ?_
  intro w3 hrow3 hoth3 hb3 hsz3
  have HRG3 := hid hrow3
  have hb3' : Below w.heap.size w2 w3 := hb3.mono (by omega)
  have HRA3 := hid (HRA2.out.below hb3 (by omega))
  have HRZ3 := hid (HRZ2.out.below hb3 (by omega))
  have HBW3 := hid (HBW2.out.trans hb3')
  have HRS3 : Hid ((CA.toList.drop (n3 * 2)).length = (m - 0) * 2) := hid (by rw [List.length_drop, HCA.out]; omega)
  clear hrow3 hoth3 hb3 hsz3 hb3' HRG2 HRA2 HRZ2 HBW2 HAX HA HCA a0 a1 a2
  generalize CA.toList.drop (n3 * 2) = zs at *
  obtain ⟨a0, a1, a2⟩ := cell3 HRA3.out
  go_wp2_with fail
  clear a0 a1 a2
  go_loopw [6] (fun i wr => ∃ (j : Nat) (rs : List Value), j ≤ m ∧ i = .int .i64 (n3 + j : Nat) ∧ Hid (rs.length = (m - j) * 2) ∧ Hid (Row wr g3 48 (ags (gs ++ tailG n3 j) ++ rs)) ∧ Hid (Row wr w.heap.size 26 [.slice A1 n1 c1, .slice A2 n2 c2, .slice A3 n3 c3]) ∧ Hid (Row wr (w.heap.size + 1) 26 [.slice none 0 0, .slice none 0 0, .slice none 0 0]) ∧ Hid (Below w.heap.size w wr)) (fun i _ => n3 + m - (intOf i).toNat)
  case atStart => exact ⟨0, zs, by omega, rfl, HRS3, hid (by simpa [tailG] using HRG3.out), HRA3, HRZ3, HBW3⟩
  case round =>
    obtain ⟨j, rs, hj, rfl, HRS, HRG, HRA, HRZ, HBW⟩ := hrel
    clear HRS3 HRG3 HRA3 HRZ3 HBW3
    by_cases hlt : j < m
    · obtain ⟨x, y, r2, hrs⟩ := two rs (by rw [HRS.out]; omega)
      subst hrs
      have HRS2 : Hid (r2.length = (m - (j + 1)) * 2) := hid (by have := HRS.out; simp at this; omega)
      have hpl : (ags (gs ++ tailG n3 j)).length = (n3 + j) * 2 := by rw [ags_length, List.length_append, HN3.out, tailG_len]
      have m0 : wr.cell? ⟨g3, (n3 + j) * 2, none⟩ = some x := by rw [HRG.out.cell, List.getElem?_append_right (by omega), hpl]; simp
      have m1 : wr.cell? ⟨g3, (n3 + j) * 2 + 1, none⟩ = some y := by rw [HRG.out.cell, List.getElem?_append_right (by omega), hpl]; simp
      have f0 := HRG.out.frozen ((n3 + j) * 2)
      have f1 := HRG.out.frozen ((n3 + j) * 2 + 1)
      have i4 : (n3 : Int) + (j : Int) < (n3 : Int) + (m : Int) := by omega
      clear HRS
      go_wp2_with fail
      have HRG5 := hid ((HRG.out.set ((n3 + j) * 2) (.int .i64 (-131 - ((n3 : Int) + (j : Int))))).set ((n3 + j) * 2 + 1) (.int .i64 0))
      rw [set2 _ _ _ _ _ _ _ hpl] at HRG5
      go_roundw
      case rel =>
        refine ⟨j + 1, r2, by omega, by go_num, HRS2, hid ?_, hid ((HRA.out.other _ (by show w.heap.size ≠ g3; omega)).other _ (by show w.heap.size ≠ g3; omega)), hid ((HRZ.out.other _ (by show w.heap.size + 1 ≠ g3; omega)).other _ (by show w.heap.size + 1 ≠ g3; omega)), hid (below_set (below_set HBW.out g3 _ _ (by omega)) g3 _ _ (by omega))⟩
        rw [tailG_succ, ← List.append_assoc, ags_append, show ags [⟨-131 - ((n3 : Int) + (j : Int)), 0⟩] = [.int .i64 (-131 - ((n3 : Int) + (j : Int))), .int .i64 0] from rfl]
        exact HRG5.out
      case measure => simp [intOf]; omega
    · obtain rfl : j = m := by omega
      have e0 : rs = [] := List.eq_nil_of_length_eq_zero (by rw [HRS.out]; omega)
      subst e0
      rw [List.append_nil] at HRG
      obtain ⟨a0, a1, a2⟩ := cell3 HRA.out
      have hwz2 : w.heap.size + 1 < wr.heap.size := HRZ.out.lt
      have hwr : w.heap.size < wr.heap.size := by omega
      have hg3 := HRG.out.lt
      go_upto_region 7 with fail
      go_region_held3 (fun w' => w'.cell? ⟨w.heap.size, 0, none⟩ = some (.slice A1 n1 c1) ∧ w'.cell? ⟨w.heap.size, 1, none⟩ = some (.slice A2 n2 c2)) (go_keep)
        (first
          | (go_at_call 21; refine (HLN.out _ (bdrew HBW.out _)).mono ?_; rintro e w5 ⟨g, gc, rfl, hg, hgc, hrn, hrc, hb5⟩; have HRN5 := hid hrn; have HRC5 := hid hrc; have HB5 := hid ((bdrew (brefl wr) 1).trans hb5); have HRA5 := hid (HRA.out.mono HB5.out); obtain ⟨p0, p1, p2⟩ := cell3 HRA5.out; have HBW5 := hid (Below.then' HBW.out HB5.out HBW.out.size); clear hrn hrc hb5)
          | (go_at_call 5; refine (HLI.out _ HBW5.out).mono ?_; rintro e w6 ⟨rfl, hri, hb6, _⟩; have HRI6 := hid hri; have HB6 := hid hb6; have HRA6 := hid (HRA5.out.mono hb6); obtain ⟨q0, q1, q2⟩ := cell3 HRA6.out; have HRZ6 := hid ((HRZ.out.mono HB5.out).mono hb6); obtain ⟨z0, z1, z2⟩ := cell3 HRZ6.out; have f0 := HRZ6.out.frozen 0; have f1 := HRZ6.out.frozen 1; have f2 := HRZ6.out.frozen 2; clear hri hb6))
      have hgw : wr.heap.size ≤ g := hg
      have hgcw : wr.heap.size ≤ gc := hgc
      have h5w : wr.heap.size ≤ w5.heap.size := HB5.out.size
      have hg5 : g < w5.heap.size := HRN5.out.lt
      have hgc5 : gc < w5.heap.size := HRC5.out.lt
      have hg35 : g3 < w5.heap.size := by omega
      have hB36 : Below w.heap.size w w6 := Below.then' HBW5.out HB6.out HBW5.out.size
      have hB56 : Below wr.heap.size wr w6 := HB5.out.trans (HB6.out.mono h5w)
      have hz := ((HRZ6.out.set 0 (.slice (some ⟨g, 0, none⟩) (n1 + j) (n1 + j))).set 1 (.slice (some ⟨w5.heap.size, 0, none⟩) (n2 + j) (n2 + j))).set 2 (.slice (some ⟨g3, 0, none⟩) (n3 + j) (n3 + j))
      obtain ⟨y0, y1, y2⟩ := cell3 hz
      have oth : ∀ (b : Nat) (e : TypeId) (cs : List Value), b ≠ w.heap.size + 1 → Row w6 b e cs → Row (((w6.setCell ⟨w.heap.size + 1, 0, none⟩ (.slice (some ⟨g, 0, none⟩) (n1 + j) (n1 + j))).setCell ⟨w.heap.size + 1, 1, none⟩ (.slice (some ⟨w5.heap.size, 0, none⟩) (n2 + j) (n2 + j))).setCell ⟨w.heap.size + 1, 2, none⟩ (.slice (some ⟨g3, 0, none⟩) (n3 + j) (n3 + j))) b e cs :=
        fun b e cs hb h => ((h.other _ hb).other _ hb).other _ hb
      have HOTH := hid oth
      clear oth
      go_wp2_with fail
      refine bodyPost_ret (v := .agg #[.slice (some ⟨g, 0, none⟩) (n1 + j) (n1 + j), .slice (some ⟨w5.heap.size, 0, none⟩) (n2 + j) (n2 + j), .slice (some ⟨g3, 0, none⟩) (n3 + j) (n3 + j)]) ?_ rfl ⟨_, g, gc, w5.heap.size, g3, rfl, ⟨?_, ⟨by omega, by omega, by omega, by omega⟩, ?_, ?_, ?_, ?_⟩, ?_⟩
      · simp [results, Try.results6, go_sem, *]
      · rw [HN1.out, HN2.out, HN3.out]
      · rw [HN1.out]; exact HOTH.out _ _ _ (by omega) (HRN5.out.mono HB6.out)
      · rw [HN1.out]; exact HOTH.out _ _ _ (by omega) (HRC5.out.mono HB6.out)
      · exact HOTH.out _ _ _ (by omega) HRI6.out
      · rw [HN3.out]; exact HOTH.out _ _ _ (by omega) (HRG.out.mono hB56)
      · exact below_set (below_set (below_set hB36 _ _ _ (by omega)) _ _ _ (by omega)) _ _ _ (by omega)
end Go.Proofs.Ytioaeijogjcghaa
