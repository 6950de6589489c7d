/- Package scan: a OR b, word by word. -/
import Derived.Test.YtinkbgnhigpkeaaDoorKlb
set_option linter.unusedVariables false
set_option linter.unusedSimpArgs false
set_option linter.unnecessarySimpa false
set_option maxRecDepth 20000
namespace Go.Proofs.YtinkbgnhigpkeaaDoor
open Go.RowKit

def eithTf (aT bT : List Nat) (k : Nat) : Nat := aT.getD k 0 ||| bT.getD k 0
def eithUf (aT aU bT bU : List Nat) (k : Nat) : Nat := (aU.getD k 0 ||| bU.getD k 0) &&& (18446744073709551615 - (aT.getD k 0 ||| bT.getD k 0))
set_option maxHeartbeats 4000000 in
theorem either_any (av au bv bu : Value) (aT aU bT bU : List Nat) (m : Nat) (w : World) (hm : m ≤ 65536) (h1 : Rd w av m 1 (u64s aT)) (h2 : Rd w au m 1 (u64s aU)) (h3 : Rd w bv m 1 (u64s bT)) (h4 : Rd w bu m 1 (u64s bU))
    (v1 : ∀ x ∈ aT, x < 18446744073709551616) (v2 : ∀ x ∈ aU, x < 18446744073709551616) (v3 : ∀ x ∈ bT, x < 18446744073709551616) (v4 : ∀ x ∈ bU, x < 18446744073709551616) :
    Calls Tryd.prog 28 #[.agg #[av, au], .agg #[bv, bu]] w fun e w' => ∃ g h, e = .returned (.agg #[.slice (some ⟨g, 0, none⟩) m m, .slice (some ⟨h, 0, none⟩) m m]) ∧ g ≠ h ∧ w.heap.size ≤ g ∧ w.heap.size ≤ h ∧
      Row w' g 55 (u64s (wordsF m (eithTf aT bT))) ∧ Row w' h 55 (u64s (wordsF m (eithUf aT aU bT bU))) ∧ Below w.heap.size w w' := by
  have H1 := hid h1; have H2 := hid h2; have H3 := hid h3; have H4 := hid h4
  have V1 := hid v1; have V2 := hid v2; have V3 := hid v3; have V4 := hid v4
  have hl1 : aT.length = m := by have := h1.1; rw [u64s_length] at this; omega
  have hl2 : aU.length = m := by have := h2.1; rw [u64s_length] at this; omega
  have hl3 : bT.length = m := by have := h3.1; rw [u64s_length] at this; omega
  have hl4 : bU.length = m := by have := h4.1; rw [u64s_length] at this; omega
  have HL := hid (And.intro hl1 (And.intro hl2 (And.intro hl3 hl4)))
  obtain ⟨A1, c1, rfl, _, _, _⟩ := h1.form
  obtain ⟨A2, c2, rfl, _, _, _⟩ := h2.form
  obtain ⟨A3, c3, rfl, _, _, _⟩ := h3.form
  obtain ⟨A4, c4, rfl, _, _, _⟩ := h4.form
  clear h1 h2 h3 h4 v1 v2 v3 v4 hl1 hl2 hl3 hl4
  have HNP := hid (fun w2 : World => newPair_any m w2 hm)
  have rows3 : Hid (∀ (w3 : World), w3 = ((w.alloc (.cells #[.slice A1 m c1, .slice A2 m c2] 24)).alloc (.cells #[.slice A3 m c3, .slice A4 m c4] 24)).alloc (.cells #[.slice none 0 0, .slice none 0 0] 24) →
      Row w3 w.heap.size 24 [.slice A1 m c1, .slice A2 m c2] ∧ Row w3 (w.heap.size + 1) 24 [.slice A3 m c3, .slice A4 m c4] ∧ Row w3 (w.heap.size + 1 + 1) 24 [.slice none 0 0, .slice none 0 0] ∧ Below w.heap.size w w3 ∧ w3.heap.size = w.heap.size + 1 + 1 + 1) := hid (fun w3 e => by
    subst e
    obtain ⟨r1, r2, bl⟩ := rows2d (u := w) (X := #[.slice A1 m c1, .slice A2 m c2]) (Y := #[.slice A3 m c3, .slice A4 m c4]) (eX := 24) (eY := 24)
    have nw : ∀ (u : World) (D : Array Value) (e : TypeId), Row (u.alloc (.cells D e)) u.heap.size e D.toList := fun u D e => by unfold Row; rw [heap_alloc_new]
    have al : ∀ (u : World) (o : Obj), Below u.heap.size u (u.alloc o) := fun u o => (Below.refl _ _).alloc (Nat.le_refl _) _
    have r3 := nw ((w.alloc (.cells #[.slice A1 m c1, .slice A2 m c2] 24)).alloc (.cells #[.slice A3 m c3, .slice A4 m c4] 24)) #[.slice none 0 0, .slice none 0 0] 24
    have sz : ((w.alloc (.cells #[.slice A1 m c1, .slice A2 m c2] 24)).alloc (.cells #[.slice A3 m c3, .slice A4 m c4] 24)).heap.size = w.heap.size + 1 + 1 := by simp
    rw [sz] at r3
    exact ⟨r1.mono (al _ _), r2.mono (al _ _), r3, Below.then' bl (al _ _) (by rw [sz]; omega), by simp⟩)
  go_enter Tryd.func28, Tryd.ntmps28
  go_upto_region 2 with (go_at_call 46; refine (HNP.out _).mono ?_; rintro e w1 ⟨g, h, rfl, hgh, hg, hh, hrg, hrh, hb1⟩; obtain ⟨ra, rb, rz, hbw, hsz⟩ := rows3.out _ rfl; have HRA := hid (ra.mono hb1); have HRB := hid (rb.mono hb1); have HRZ := hid (rz.mono hb1); have HB1 : Hid (Below w.heap.size w w1) := hid (Below.then' hbw hb1 hbw.size); have HRG := hid hrg; have HRH := hid hrh; have hgb : w.heap.size + 1 + 1 < g := (by omega); have hhb : w.heap.size + 1 + 1 < h := (by omega); clear hb1 hrg hrh ra rb rz hbw hsz hg hh rows3)
  have hgl : g < w1.heap.size := HRG.out.lt
  have hhl : h < w1.heap.size := HRH.out.lt
  have nal : Below w1.heap.size w1 (w1.alloc (.cells #[.slice (some ⟨g, 0, none⟩) m m, .slice (some ⟨h, 0, none⟩) m m] 24)) := (Below.refl _ _).alloc (Nat.le_refl _) _
  have HRA2 := hid (HRA.out.mono nal)
  have HRB2 := hid (HRB.out.mono nal)
  have HRZ2 := hid (HRZ.out.mono nal)
  have HRP2 : Hid (Row (w1.alloc (.cells #[.slice (some ⟨g, 0, none⟩) m m, .slice (some ⟨h, 0, none⟩) m m] 24)) w1.heap.size 24 [.slice (some ⟨g, 0, none⟩) m m, .slice (some ⟨h, 0, none⟩) m m]) := hid (by unfold Row; rw [heap_alloc_new])
  have HRG2 : Hid (Row (w1.alloc (.cells #[.slice (some ⟨g, 0, none⟩) m m, .slice (some ⟨h, 0, none⟩) m m] 24)) g 55 (u64s (upF m 0 (eithTf aT bT)))) := hid (by rw [upF_zero]; exact HRG.out.mono nal)
  have HRH2 : Hid (Row (w1.alloc (.cells #[.slice (some ⟨g, 0, none⟩) m m, .slice (some ⟨h, 0, none⟩) m m] 24)) h 55 (u64s (upF m 0 (eithUf aT aU bT bU)))) := hid (by rw [upF_zero]; exact HRH.out.mono nal)
  have HBW2 : Hid (Below w.heap.size w (w1.alloc (.cells #[.slice (some ⟨g, 0, none⟩) m m, .slice (some ⟨h, 0, none⟩) m m] 24))) := hid (HB1.out.alloc HB1.out.size _)
  clear HRA HRB HRZ HRG HRH HB1 nal HNP
  generalize w1.alloc (.cells #[.slice (some ⟨g, 0, none⟩) m m, .slice (some ⟨h, 0, none⟩) m m] 24) = w2 at *
  generalize w1.heap.size = gp at *
  obtain ⟨p0, p1⟩ := cell2 HRP2.out
  go_wp2_with fail
  clear p0 p1
  go_loopw [14] (fun i wr => ∃ k : Nat, k ≤ m ∧ i = .int .i64 k ∧ Hid (Row wr w.heap.size 24 [.slice A1 m c1, .slice A2 m c2]) ∧ Hid (Row wr (w.heap.size + 1) 24 [.slice A3 m c3, .slice A4 m c4]) ∧ Hid (Row wr (w.heap.size + 1 + 1) 24 [.slice none 0 0, .slice none 0 0]) ∧ Hid (Row wr gp 24 [.slice (some ⟨g, 0, none⟩) m m, .slice (some ⟨h, 0, none⟩) m m]) ∧ Hid (Row wr g 55 (u64s (upF m k (eithTf aT bT)))) ∧ Hid (Row wr h 55 (u64s (upF m k (eithUf aT aU bT bU)))) ∧ Hid (Below w.heap.size w wr)) (fun i _ => m - (intOf i).toNat)
  case atStart => exact ⟨0, by omega, rfl, HRA2, HRB2, HRZ2, HRP2, HRG2, HRH2, HBW2⟩
  case round =>
    obtain ⟨k, hk, rfl, HRA, HRB, HRZ, HRP, HRG, HRH, HBW⟩ := hrel
    clear HRA2 HRB2 HRZ2 HRP2 HRG2 HRH2 HBW2
    by_cases hlt : k < m
    · obtain ⟨b1, o1, rfl, s1⟩ := (H1.out.mono HBW.out).at (by omega)
      obtain ⟨b2, o2, rfl, s2⟩ := (H2.out.mono HBW.out).at (by omega)
      obtain ⟨b3, o3, rfl, s3⟩ := (H3.out.mono HBW.out).at (by omega)
      obtain ⟨b4, o4, rfl, s4⟩ := (H4.out.mono HBW.out).at (by omega)
      obtain ⟨l1, l2, l3, l4⟩ := HL.out
      have q1 := s1.word k (by omega)
      have q2 := s2.word k (by omega)
      have q3 := s3.word k (by omega)
      have q4 := s4.word k (by omega)
      have z1 := getD_64 V1.out k
      have z2 := getD_64 V2.out k
      have z3 := getD_64 V3.out k
      have z4 := getD_64 V4.out k
      have HF1 : Hid (eithTf aT bT k = aT.getD k 0 ||| bT.getD k 0) := hid rfl
      have HF2 : Hid (eithUf aT aU bT bU k = (aU.getD k 0 ||| bU.getD k 0) &&& (18446744073709551615 - (aT.getD k 0 ||| bT.getD k 0))) := hid rfl
      have HQ2 : Hid (∀ wx : World, Below w.heap.size w wx → wx.cell? ⟨b2, o2 + k, none⟩ = some (.int .u64 (aU.getD k 0 : Nat)) ∧ wx.cell? ⟨b4, o4 + k, none⟩ = some (.int .u64 (bU.getD k 0 : Nat))) := hid (fun wx hb => by
        obtain ⟨bb, oo, he, ss⟩ := (H2.out.mono hb).at (by omega)
        obtain ⟨bb', oo', he', ss'⟩ := (H4.out.mono hb).at (by omega)
        injection he with he
        injection he with hb1 ho1
        injection he' with he'
        injection he' with hb2 ho2
        subst hb1 ho1 hb2 ho2
        exact ⟨ss.word k (by omega), ss'.word k (by omega)⟩)
      clear s1 s2 s3 s4 l1 l2 l3 l4
      generalize aT.getD k 0 = x1 at *
      generalize aU.getD k 0 = x2 at *
      generalize bT.getD k 0 = x3 at *
      generalize bU.getD k 0 = x4 at *
      have e1 := u64_or_nat x1 x3 z1 z3
      have e2 := u64_or_nat x2 x4 z2 z4
      have e5 := u64_andNot_nat (x2 ||| x4) (x1 ||| x3) (w64_or z2 z4) (w64_or z1 z3)
      generalize (x2 ||| x4) &&& (18446744073709551615 - (x1 ||| x3)) = y5 at *
      generalize x1 ||| x3 = y4 at *
      generalize x2 ||| x4 = y2 at *
      obtain ⟨a0, a1⟩ := cell2 HRA.out
      obtain ⟨b0, b1'⟩ := cell2 HRB.out
      obtain ⟨p0, p1⟩ := cell2 HRP.out
      have g0 : wr.cell? ⟨g, k, none⟩ = some (.int .u64 ((upF m k (eithTf aT bT)).getD k 0 : Nat)) := by rw [HRG.out.cell]; exact u64s_get _ k (by rw [upF_len]; exact hlt)
      have h0 : wr.cell? ⟨h, k, none⟩ = some (.int .u64 ((upF m k (eithUf aT aU bT bU)).getD k 0 : Nat)) := by rw [HRH.out.cell]; exact u64s_get _ k (by rw [upF_len]; exact hlt)
      have fg := HRG.out.frozen k
      have fh := HRH.out.frozen k
      generalize (upF m k (eithTf aT bT)).getD k 0 = og at *
      obtain ⟨oh, hoh⟩ : ∃ oh, (upF m k (eithUf aT aU bT bU)).getD k 0 = oh := ⟨_, rfl⟩
      rw [hoh] at h0
      have HOH := hid hoh
      clear hoh
      go_wp2_with fail
      go_region
      go_wp2_with fail
      have nd : ∀ (W : World) (b : Nat) (e : TypeId) (cs : List Value), Row W b e cs → Row W.drew b e cs := fun W b e cs h => h
      have hng : w.heap.size ≠ g := by omega
      have hng1 : w.heap.size + 1 ≠ g := by omega
      have hng2 : w.heap.size + 1 + 1 ≠ g := by omega
      have HRA4 := hid (nd _ _ _ _ (HRA.out.other (a := ⟨g, k, none⟩) (.int .u64 (y4 : Nat)) hng))
      have HRB4 := hid (nd _ _ _ _ (HRB.out.other (a := ⟨g, k, none⟩) (.int .u64 (y4 : Nat)) hng1))
      have HRZ4 := hid (nd _ _ _ _ (HRZ.out.other (a := ⟨g, k, none⟩) (.int .u64 (y4 : Nat)) hng2))
      have HRP4 := hid (nd _ _ _ _ (HRP.out.other (a := ⟨g, k, none⟩) (.int .u64 (y4 : Nat)) (by show gp ≠ g; omega)))
      have HRH4 := hid (nd _ _ _ _ (HRH.out.other (a := ⟨g, k, none⟩) (.int .u64 (y4 : Nat)) (Ne.symm hgh)))
      have HRG4 : Hid (Row (World.drew (wr.setCell ⟨g, k, none⟩ (.int .u64 (y4 : Nat)))) g 55 (u64s (upF m (k + 1) (eithTf aT bT)))) := hid (by
        rw [← upF_set m k _ hlt, HF1.out, ← u64s_set]; exact nd _ _ _ _ (HRG.out.set k _))
      have HBW4 : Hid (Below w.heap.size w (World.drew (wr.setCell ⟨g, k, none⟩ (.int .u64 (y4 : Nat))))) := hid (bdrew (below_set HBW.out g k (.int .u64 (y4 : Nat)) (by omega)) 1)
      clear HRA HRB HRZ HRP HRG HRH HBW a0 a1 b0 b1' p0 p1 g0 h0 fg fh q1 q2 q3 q4 nd
      revert HRA4 HRB4 HRZ4 HRP4 HRH4 HRG4 HBW4
      generalize World.drew (World.setCell _ _ _) = w4
      intro HRA4 HRB4 HRZ4 HRP4 HRH4 HRG4 HBW4
      obtain ⟨p0, p1⟩ := cell2 HRP4.out
      obtain ⟨a0, a1⟩ := cell2 HRA4.out
      obtain ⟨b0, b1'⟩ := cell2 HRB4.out
      obtain ⟨q2, q4⟩ := HQ2.out w4 HBW4.out
      have g0 : w4.cell? ⟨g, k, none⟩ = some (.int .u64 (y4 : Nat)) := by
        rw [HRG4.out.cell, u64s_get _ k (by rw [upF_len]; exact hlt), upF_get _ _ _ _ hlt, if_pos (by omega), HF1.out]
      have h0 : w4.cell? ⟨h, k, none⟩ = some (.int .u64 (oh : Nat)) := by
        rw [HRH4.out.cell, u64s_get _ k (by rw [upF_len]; exact hlt), HOH.out]
      have fh := HRH4.out.frozen k
      have hb24 := HQ2.out w (Below.refl _ _)
      have hb2 : b2 < w.heap.size := World.block_lt_of_cell? w _ hb24.1
      have hb4 : b4 < w.heap.size := World.block_lt_of_cell? w _ hb24.2
      have d1 : ¬ w.heap.size = h := by omega
      have d2 : ¬ w.heap.size + 1 = h := by omega
      have d3 : ¬ gp = h := by omega
      have d4 : ¬ b2 = h := by omega
      have d5 : ¬ b4 = h := by omega
      have d6 : ¬ g = h := hgh
      clear hb24
      have HKEEP : Hid (∀ v : Value, (World.drew (w4.setCell ⟨h, k, none⟩ v)).cell? ⟨gp, 0, none⟩ = some (.slice (some ⟨g, 0, none⟩) m m) ∧ (World.drew (w4.setCell ⟨h, k, none⟩ v)).cell? ⟨gp, 1, none⟩ = some (.slice (some ⟨h, 0, none⟩) m m) ∧ (World.drew (w4.setCell ⟨h, k, none⟩ v)).cell? ⟨w.heap.size, 1, none⟩ = some (.slice (some ⟨b2, o2, none⟩) m c2) ∧ (World.drew (w4.setCell ⟨h, k, none⟩ v)).cell? ⟨w.heap.size + 1, 1, none⟩ = some (.slice (some ⟨b4, o4, none⟩) m c4) ∧ (World.drew (w4.setCell ⟨h, k, none⟩ v)).cell? ⟨b2, o2 + k, none⟩ = some (.int .u64 (x2 : Nat)) ∧ (World.drew (w4.setCell ⟨h, k, none⟩ v)).cell? ⟨b4, o4 + k, none⟩ = some (.int .u64 (x4 : Nat)) ∧ (World.drew (w4.setCell ⟨h, k, none⟩ v)).cell? ⟨g, k, none⟩ = some (.int .u64 (y4 : Nat))) :=
        hid (fun v => ⟨keep_cell p0 d3, keep_cell p1 d3, keep_cell a1 d1, keep_cell b1' d2, keep_cell q2 d4, keep_cell q4 d5, keep_cell g0 d6⟩)
      go_region_held3 (fun w' => w'.cell? ⟨gp, 0, none⟩ = some (.slice (some ⟨g, 0, none⟩) m m) ∧ w'.cell? ⟨gp, 1, none⟩ = some (.slice (some ⟨h, 0, none⟩) m m) ∧ w'.cell? ⟨w.heap.size, 1, none⟩ = some (.slice (some ⟨b2, o2, none⟩) m c2) ∧ w'.cell? ⟨w.heap.size + 1, 1, none⟩ = some (.slice (some ⟨b4, o4, none⟩) m c4) ∧ w'.cell? ⟨b2, o2 + k, none⟩ = some (.int .u64 (x2 : Nat)) ∧ w'.cell? ⟨b4, o4 + k, none⟩ = some (.int .u64 (x4 : Nat)) ∧ w'.cell? ⟨g, k, none⟩ = some (.int .u64 (y4 : Nat))) (first | exact HKEEP.out _ | go_keep) (first | fail)
      go_wp2_with fail
      go_roundw
      case rel =>
        have nd : ∀ (b : Nat) (e : TypeId) (cs : List Value), Row w4 b e cs → Row w4.drew b e cs := fun b e cs h => h
        refine ⟨k + 1, by omega, by go_num, hid ((nd _ _ _ HRA4.out).other _ (by show w.heap.size ≠ h; omega)), hid ((nd _ _ _ HRB4.out).other _ (by show w.heap.size + 1 ≠ h; omega)), hid ((nd _ _ _ HRZ4.out).other _ (by show w.heap.size + 1 + 1 ≠ h; omega)), hid ((nd _ _ _ HRP4.out).other _ (by show gp ≠ h; omega)), hid ((nd _ _ _ HRG4.out).other _ hgh), hid ?_, hid ?_⟩
        · rw [← upF_set m k _ hlt, HF2.out, ← u64s_set]; exact (nd _ _ _ HRH4.out).set k _
        · exact below_set (bdrew HBW4.out 1) h k _ (by omega)
      case measure => simp [intOf]; omega
    · obtain rfl : k = m := by omega
      rw [upF_all] at HRG HRH
      obtain ⟨p0, p1⟩ := cell2 HRP.out
      obtain ⟨z0, z1⟩ := cell2 HRZ.out
      have f0 := HRZ.out.frozen 0
      have f1 := HRZ.out.frozen 1
      go_wp2_with fail
      have hz := (HRZ.out.set 0 (.slice (some ⟨g, 0, none⟩) k k)).set 1 (.slice (some ⟨h, 0, none⟩) k k)
      obtain ⟨y0, y1⟩ := cell2 hz
      refine bodyPost_ret (v := .agg #[.slice (some ⟨g, 0, none⟩) k k, .slice (some ⟨h, 0, none⟩) k k]) ?_ rfl ⟨g, h, rfl, hgh, by omega, by omega, (HRG.out.other _ (by show g ≠ w.heap.size + 1 + 1; omega)).other _ (by show g ≠ w.heap.size + 1 + 1; omega), (HRH.out.other _ (by show h ≠ w.heap.size + 1 + 1; omega)).other _ (by show h ≠ w.heap.size + 1 + 1; omega), below_set (below_set HBW.out _ _ _ (by omega)) _ _ _ (by omega)⟩
      simp [results, Tryd.results28, go_sem, *]
end Go.Proofs.YtinkbgnhigpkeaaDoor
