/- Package scan: NOT a, word by word. -/
import Derived.Test.YtinkbgnhigpkeaaDoorKle
set_option linter.unusedVariables false
set_option linter.unusedSimpArgs false
set_option linter.unnecessarySimpa false
set_option maxRecDepth 20000
namespace Go.Proofs.YtinkbgnhigpkeaaDoor
open Go.RowKit

def negTf (aT aU : List Nat) (k : Nat) : Nat := aT.getD k 0 ||| aU.getD k 0
def negUf (aU : List Nat) (k : Nat) : Nat := aU.getD k 0
theorem owns_base {w : World} {B B' sz : Nat} {e : TypeId} {v : Value} {n : Nat} {xs : List Value} (h : w.ownsRow B e sz v n xs) (hb : B' ≤ B) : w.ownsRow B' e sz v n xs := by
  refine ⟨h.1, ?_⟩
  rcases h.2 with h | ⟨g, cap, cur, rfl, h1, r⟩
  · exact .inl h
  · exact .inr ⟨g, cap, cur, rfl, by omega, r⟩
theorem negT_lt (m : Nat) (aT aU : List Nat) (v1 : ∀ x ∈ aT, x < 18446744073709551616) (v2 : ∀ x ∈ aU, x < 18446744073709551616) : ∀ x ∈ wordsF m (negTf aT aU), x < 18446744073709551616 := by
  intro x hx
  simp only [wordsF, List.mem_map] at hx
  obtain ⟨k, _, rfl⟩ := hx
  exact w64_or (getD_64 v1 k) (getD_64 v2 k)
set_option maxHeartbeats 4000000 in
theorem negation_any (av au : Value) (aT aU : List Nat) (n : Int) (m : Nat) (w : World) (hT : Tab w) (hm : m ≤ 65536) (h1 : Rd w av m 1 (u64s aT)) (h2 : Rd w au m 1 (u64s aU)) (v1 : ∀ x ∈ aT, x < 18446744073709551616) (v2 : ∀ x ∈ aU, x < 18446744073709551616) :
    Calls Tryd.prog 29 #[.int .i64 n, .agg #[av, au]] w fun e w' => ∃ tv h, e = .returned (.agg #[tv, .slice (some ⟨h, 0, none⟩) m m]) ∧ w.heap.size ≤ h ∧ (∀ k, tv.ownBlock = some k → h < k) ∧
      w'.ownsRow w.heap.size 55 1 tv (cmpR 1 n 1 (wordsF m (negTf aT aU)) 0).length (u64s (cmpR 1 n 1 (wordsF m (negTf aT aU)) 0)) ∧ Row w' h 55 (u64s (wordsF m (negUf aU))) ∧ Below w.heap.size w w' := by
  have H1 := hid h1; have H2 := hid h2
  have V1 := hid v1; have V2 := hid v2
  have HT := hid hT
  have hTl := hT.lt
  have hl1 : aT.length = m := by have := h1.1; rw [u64s_length] at this; omega
  have hl2 : aU.length = m := by have := h2.1; rw [u64s_length] at this; omega
  have HL := hid (And.intro hl1 hl2)
  have HCP := hid (fun (g : Nat) (w2 : World) (hr : Row w2 g 55 (u64s (wordsF m (negTf aT aU)))) (ht2 : Tab w2) => Compare_any (.slice (some ⟨g, 0, none⟩) m m) (wordsF m (negTf aT aU)) 1 n 1 0 w2 ht2 (by rw [wordsF_len]; exact hr.rd' (by rw [u64s_length, wordsF_len]) (by unfold maxLen; omega)) (negT_lt m aT aU v1 v2) (by decide) (by rw [wordsF_len]; unfold maxLen; omega))
  obtain ⟨A1, c1, rfl, _, _, _⟩ := h1.form
  obtain ⟨A2, c2, rfl, _, _, _⟩ := h2.form
  clear h1 h2 v1 v2 hl1 hl2 hT
  have HNP := hid (fun w2 : World => newPair_any m w2 hm)
  have rows2' : Hid (∀ (w3 : World), w3 = (w.alloc (.cells #[.slice A1 m c1, .slice A2 m c2] 24)).alloc (.cells #[.slice none 0 0, .slice none 0 0] 24) →
      Row w3 w.heap.size 24 [.slice A1 m c1, .slice A2 m c2] ∧ Row w3 (w.heap.size + 1) 24 [.slice none 0 0, .slice none 0 0] ∧ Below w.heap.size w w3 ∧ w3.heap.size = w.heap.size + 1 + 1) := hid (fun w3 e => by
    subst e
    obtain ⟨r1, r2, bl⟩ := rows2d (u := w) (X := #[.slice A1 m c1, .slice A2 m c2]) (Y := #[.slice none 0 0, .slice none 0 0]) (eX := 24) (eY := 24)
    exact ⟨r1, r2, bl, by simp⟩)
  go_enter Tryd.func29, Tryd.ntmps29
  go_upto_region 2 with (go_at_call 46; refine (HNP.out _).mono ?_; rintro e w1 ⟨g, h, rfl, hgh, hg, hh, hrg, hrh, hb1⟩; obtain ⟨ra, rz, hbw, hsz⟩ := rows2'.out _ rfl; have HRA := hid (ra.mono hb1); have HRZ := hid (rz.mono hb1); have HB1 : Hid (Below w.heap.size w w1) := hid (Below.then' hbw hb1 hbw.size); have HRG := hid hrg; have HRH := hid hrh; have hgb : w.heap.size + 1 < g := (by omega); have hhb : w.heap.size + 1 < h := (by omega); clear hb1 hrg hrh ra rz hbw hsz hg hh rows2')
  have hgl : g < w1.heap.size := HRG.out.lt
  have hhl : h < w1.heap.size := HRH.out.lt
  have nal : Below w1.heap.size w1 (w1.alloc (.cells #[.slice (some ⟨g, 0, none⟩) m m, .slice (some ⟨h, 0, none⟩) m m] 24)) := (Below.refl _ _).alloc (Nat.le_refl _) _
  have HRA2 := hid (HRA.out.mono nal)
  have HRZ2 := hid (HRZ.out.mono nal)
  have HRP2 : Hid (Row (w1.alloc (.cells #[.slice (some ⟨g, 0, none⟩) m m, .slice (some ⟨h, 0, none⟩) m m] 24)) w1.heap.size 24 [.slice (some ⟨g, 0, none⟩) m m, .slice (some ⟨h, 0, none⟩) m m]) := hid (by unfold Row; rw [heap_alloc_new])
  have HRG2 : Hid (Row (w1.alloc (.cells #[.slice (some ⟨g, 0, none⟩) m m, .slice (some ⟨h, 0, none⟩) m m] 24)) g 55 (u64s (upF m 0 (negTf aT aU)))) := hid (by rw [upF_zero]; exact HRG.out.mono nal)
  have HRH2 : Hid (Row (w1.alloc (.cells #[.slice (some ⟨g, 0, none⟩) m m, .slice (some ⟨h, 0, none⟩) m m] 24)) h 55 (u64s (upF m 0 (negUf aU)))) := hid (by rw [upF_zero]; exact HRH.out.mono nal)
  have HBW2 : Hid (Below w.heap.size w (w1.alloc (.cells #[.slice (some ⟨g, 0, none⟩) m m, .slice (some ⟨h, 0, none⟩) m m] 24))) := hid (HB1.out.alloc HB1.out.size _)
  clear HRA HRZ HRG HRH HB1 nal HNP
  generalize w1.alloc (.cells #[.slice (some ⟨g, 0, none⟩) m m, .slice (some ⟨h, 0, none⟩) m m] 24) = w2 at *
  generalize w1.heap.size = gp at *
  obtain ⟨p0, p1⟩ := cell2 HRP2.out
  go_wp2_with fail
  clear p0 p1
  go_loopw [14] (fun i wr => ∃ k : Nat, k ≤ m ∧ i = .int .i64 k ∧ Hid (Row wr w.heap.size 24 [.slice A1 m c1, .slice A2 m c2]) ∧ Hid (Row wr (w.heap.size + 1) 24 [.slice none 0 0, .slice none 0 0]) ∧ Hid (Row wr gp 24 [.slice (some ⟨g, 0, none⟩) m m, .slice (some ⟨h, 0, none⟩) m m]) ∧ Hid (Row wr g 55 (u64s (upF m k (negTf aT aU)))) ∧ Hid (Row wr h 55 (u64s (upF m k (negUf aU)))) ∧ Hid (Below w.heap.size w wr)) (fun i _ => m - (intOf i).toNat)
  case atStart => exact ⟨0, by omega, rfl, HRA2, HRZ2, HRP2, HRG2, HRH2, HBW2⟩
  case round =>
    obtain ⟨k, hk, rfl, HRA, HRZ, HRP, HRG, HRH, HBW⟩ := hrel
    clear HRA2 HRZ2 HRP2 HRG2 HRH2 HBW2
    by_cases hlt : k < m
    · obtain ⟨b1, o1, rfl, s1⟩ := H1.out.at (by omega)
      obtain ⟨b2, o2, rfl, s2⟩ := H2.out.at (by omega)
      obtain ⟨l1, l2⟩ := HL.out
      have q1w := s1.word k (by omega)
      have q2w := s2.word k (by omega)
      have hb1 : b1 < w.heap.size := World.block_lt_of_cell? w _ q1w
      have hb2 : b2 < w.heap.size := World.block_lt_of_cell? w _ q2w
      have q1 := (HBW.out.cell (p := ⟨b1, o1 + k, none⟩) hb1).trans q1w
      have q2 := (HBW.out.cell (p := ⟨b2, o2 + k, none⟩) hb2).trans q2w
      have z1 := getD_64 V1.out k
      have z2 := getD_64 V2.out k
      have HF1 : Hid (negTf aT aU k = aT.getD k 0 ||| aU.getD k 0) := hid rfl
      have HF2 : Hid (negUf aU k = aU.getD k 0) := hid rfl
      have HQ2W := hid q2w
      clear s1 s2 l1 l2 q1w q2w
      generalize aT.getD k 0 = x1 at *
      generalize aU.getD k 0 = x2 at *
      have e1 := u64_or_nat x1 x2 z1 z2
      generalize x1 ||| x2 = y4 at *
      obtain ⟨a0, a1⟩ := cell2 HRA.out
      obtain ⟨p0, p1⟩ := cell2 HRP.out
      have g0 : wr.cell? ⟨g, k, none⟩ = some (.int .u64 ((upF m k (negTf aT aU)).getD k 0 : Nat)) := by rw [HRG.out.cell]; exact u64s_get _ k (by rw [upF_len]; exact hlt)
      have fg := HRG.out.frozen k
      generalize (upF m k (negTf aT aU)).getD k 0 = og at *
      go_wp2_with fail
      go_region
      go_wp2_with fail
      have nd : ∀ (W : World) (b : Nat) (e : TypeId) (cs : List Value), Row W b e cs → Row W.drew b e cs := fun W b e cs h => h
      have HRA4 := hid (nd _ _ _ _ (HRA.out.other (a := ⟨g, k, none⟩) (.int .u64 (y4 : Nat)) (by show w.heap.size ≠ g; omega)))
      have HRZ4 := hid (nd _ _ _ _ (HRZ.out.other (a := ⟨g, k, none⟩) (.int .u64 (y4 : Nat)) (by show w.heap.size + 1 ≠ g; omega)))
      have HRP4 := hid (nd _ _ _ _ (HRP.out.other (a := ⟨g, k, none⟩) (.int .u64 (y4 : Nat)) (by show gp ≠ g; omega)))
      have HRH4 := hid (nd _ _ _ _ (HRH.out.other (a := ⟨g, k, none⟩) (.int .u64 (y4 : Nat)) (Ne.symm hgh)))
      have HRG4 : Hid (Row (World.drew (wr.setCell ⟨g, k, none⟩ (.int .u64 (y4 : Nat)))) g 55 (u64s (upF m (k + 1) (negTf aT aU)))) := hid (by
        rw [← upF_set m k _ hlt, HF1.out, ← u64s_set]; exact nd _ _ _ _ (HRG.out.set k _))
      have HBW4 : Hid (Below w.heap.size w (World.drew (wr.setCell ⟨g, k, none⟩ (.int .u64 (y4 : Nat))))) := hid (bdrew (below_set HBW.out g k (.int .u64 (y4 : Nat)) (by omega)) 1)
      clear HRA HRZ HRP HRG HRH HBW a0 a1 p0 p1 g0 fg q1 q2
      revert HRA4 HRZ4 HRP4 HRH4 HRG4 HBW4
      generalize World.drew (World.setCell _ _ _) = w4
      intro HRA4 HRZ4 HRP4 HRH4 HRG4 HBW4
      obtain ⟨p0, p1⟩ := cell2 HRP4.out
      obtain ⟨a0, a1⟩ := cell2 HRA4.out
      have q2 := (HBW4.out.cell (p := ⟨b2, o2 + k, none⟩) hb2).trans HQ2W.out
      have h0 : w4.cell? ⟨h, k, none⟩ = some (.int .u64 ((upF m k (negUf aU)).getD k 0 : Nat)) := by rw [HRH4.out.cell]; exact u64s_get _ k (by rw [upF_len]; exact hlt)
      have fh := HRH4.out.frozen k
      generalize (upF m k (negUf aU)).getD k 0 = oh at *
      go_region
      go_wp2_with fail
      go_roundw
      case rel =>
        refine ⟨k + 1, by omega, by go_num, hid (nd _ _ _ _ (HRA4.out.other _ (by show w.heap.size ≠ h; omega))), hid (nd _ _ _ _ (HRZ4.out.other _ (by show w.heap.size + 1 ≠ h; omega))), hid (nd _ _ _ _ (HRP4.out.other _ (by show gp ≠ h; omega))), hid (nd _ _ _ _ (HRG4.out.other _ hgh)), hid ?_, hid ?_⟩
        · rw [← upF_set m k _ hlt, HF2.out, ← u64s_set]; exact nd _ _ _ _ (HRH4.out.set k _)
        · exact bdrew (below_set HBW4.out h k _ (by omega)) 1
      case measure => simp [intOf]; omega
    · obtain rfl : k = m := by omega
      rw [upF_all] at HRG HRH
      obtain ⟨p0, p1⟩ := cell2 HRP.out
      have f0 := HRP.out.frozen 0
      have HTW : Hid (Tab wr) := hid (HT.out.mono HBW.out hTl)
      have HGL := hid HRP.out.lt
      go_wp2_with (go_at_call 47; refine (HCP.out g wr HRG.out HTW.out).mono ?_; rintro e w5 ⟨r5, rfl, ho5, hb5⟩; have HO5 := hid ho5; have HB5 := hid hb5; have HRP5 := hid (HRP.out.mono hb5); have HRZ5 := hid (HRZ.out.mono hb5); have HRH5 := hid (HRH.out.mono hb5); obtain ⟨A5, c5, rfl, _, _, _, _⟩ := owns_form ho5; obtain ⟨k0, k1⟩ := cell2 HRP5.out; have j0 := HRP5.out.frozen 0; obtain ⟨i0, i1⟩ := cell2 HRZ5.out; have r0 := HRZ5.out.frozen 0; have r1 := HRZ5.out.frozen 1; clear ho5 hb5)
      have hgpk := HGL.out
      have HO5B : Hid (∀ b, (Value.slice A5 (cmpR 1 n 1 (wordsF k (negTf aT aU)) 0).length c5).ownBlock = some b → wr.heap.size ≤ b) := hid (fun b hb => (HO5.out.lt b hb).1)
      generalize cmpR 1 n 1 (wordsF k (negTf aT aU)) 0 = R at *
      have hz := ((HRZ5.out.other (a := ⟨gp, 0, none⟩) (.slice A5 R.length c5) (by show w.heap.size + 1 ≠ gp; omega)).set 0 (.slice A5 R.length c5)).set 1 (.slice (some ⟨h, 0, none⟩) k k)
      obtain ⟨y0, y1⟩ := cell2 hz
      refine bodyPost_ret (v := .agg #[.slice A5 R.length c5, .slice (some ⟨h, 0, none⟩) k k]) ?_ rfl ⟨.slice A5 R.length c5, h, rfl, by omega, fun b hb => by have := HO5B.out b hb; omega, ?_, ?_, ?_⟩
      · simp [results, Tryd.results29, go_sem, *]
      · refine owns_keep (owns_base HO5.out HBW.out.size) fun b hb => ?_
        have hb5 := HO5B.out b hb
        rw [heap_setCell_other _ _ b _ (by show b ≠ w.heap.size + 1; omega), heap_setCell_other _ _ b _ (by show b ≠ w.heap.size + 1; omega), heap_setCell_other _ _ b _ (by show b ≠ gp; omega)]
      · exact ((HRH5.out.other _ (by show h ≠ gp; omega)).other _ (by show h ≠ w.heap.size + 1; omega)).other _ (by show h ≠ w.heap.size + 1; omega)
      · exact below_set (below_set (below_set (Below.then' HBW.out HB5.out HBW.out.size) _ _ _ (by omega)) _ _ _ (by omega)) _ _ _ (by omega)
end Go.Proofs.YtinkbgnhigpkeaaDoor
