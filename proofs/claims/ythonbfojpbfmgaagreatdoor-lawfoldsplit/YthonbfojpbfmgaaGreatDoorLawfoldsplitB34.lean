/- Package codec: the payload by a dictionary, of integers. -/
import Derived.Test.YthonbfojpbfmgaaGreatDoorLawfoldsplitB19
import Derived.Test.YthonbfojpbfmgaaGreatDoorLawfoldsplitB33
import Derived.Test.YthonbfojpbfmgaaGreatDoorLawfoldsplitB20
import Derived.Test.YthonbfojpbfmgaaGreatDoorLawfoldsplitB21
set_option linter.unusedVariables false
set_option linter.unusedSimpArgs false
set_option linter.unnecessarySimpa false
set_option maxRecDepth 100000
namespace Go.Proofs.YthonbfojpbfmgaaGreatDoor
open Go.RowKit

def codesI (D xs : List Int) : List Nat := xs.map (firstGe D)
theorem up_I {D : List Int} (h : D.Pairwise (· < ·)) : ∀ a b, a < b → b < D.length → D.getD a 0 < D.getD b 0 := by
  intro a b h1 h2
  have := List.pairwise_iff_getElem.1 h a b (by omega) h2 h1
  simpa [List.getD, List.getElem?_eq_getElem h2, List.getElem?_eq_getElem (show a < D.length by omega)] using this
theorem place_I {D : List Int} (h : D.Pairwise (· < ·)) {x : Int} (hx : x ∈ D) : placeP (D.map pI) (pI x) = firstGe D x := by
  obtain ⟨t, ht, hxt⟩ := List.getElem_of_mem hx
  have hg : D.getD t 0 = x := by simp [List.getD, List.getElem?_eq_getElem ht, hxt]
  have hup := up_I h
  rw [placeP_found (D.map pI) (pI x) t (by simpa using ht) (fun u hu => by
    rw [pI_get D u (by omega), eqP_pI]
    have := hup u t hu ht
    exact decide_eq_false (by omega)) (by rw [pI_get D t ht, eqP_pI, hg]; simp)]
  exact (firstGe_eq D x t (by omega) (fun a ha => by have := hup a t ha ht; omega) (fun _ => by omega)).symm
theorem codes_I (xs : List Int) (h : (dictI xs).length ≤ 256) : lanesD (xs.map pI) = codesI (dictI xs) xs := by
  unfold lanesD codesI
  rw [dictI_diff xs h, List.map_map]
  apply List.map_congr_left
  intro x hx
  exact place_I (dictI_spec xs).1 (((dictI_spec xs).2 x).2 hx)
theorem listB_I (D : List Int) : listB 1 (D.map pI) = le8I D := by
  unfold listB headB
  have h1 : (D.map pI).map Prod.fst = D := by
    rw [List.map_map]; exact (List.map_congr_left (fun x _ => rfl)).trans (List.map_id D)
  have h2 : textB ((D.map pI).map Prod.snd) = [] := by
    unfold textB
    rw [List.flatMap_eq_nil_iff]
    intro s hs
    simp only [List.map_map, List.mem_map, Function.comp] at hs
    obtain ⟨i, _, rfl⟩ := hs
    rfl
  rw [if_pos rfl, h1, h2, List.append_nil]
theorem dictB_I (xs : List Int) (h : (dictI xs).length ≤ 256) :
    dictB 1 (xs.map pI) = (leN 4 (dictI xs).length ++ le8I (dictI xs)) ++ le8 (packR (needN (dictI xs).length : Nat) (codesI (dictI xs) xs)) := by
  unfold dictB
  rw [codes_I xs h, dictI_diff xs h, listB_I, List.length_map]
/-- what a payload's call hands back -/
def PayAns (w w' : World) (e : Ending) (wo : Int) (ok : Bool) (bs : List Nat) : Prop := ∃ (r : Value) (wr : Int), e = .returned (.tuple #[r, .int .i64 wr, .bool ok]) ∧ (∃ A n c, r = .slice A n c) ∧ (ok = true → wr = wo ∧ OwnB w.heap.size w' r bs) ∧ Below w.heap.size w w'
set_option maxHeartbeats 16000000 in
theorem dictPayloadI_any (xs : List Int) (u : Value) (w : World) (hu : Rd w u xs.length 1 (i64s xs)) (hl : xs.length ≤ 1048576) :
    Calls Tryz.prog 180 #[.iface 68 (.agg #[]), u] w fun e w' =>
      PayAns w w' e (needN (diffP (xs.map pI)).length : Nat) (decide ((diffP (xs.map pI)).length ≤ 256)) (dictB 1 (xs.map pI)) := by
  have HU := hid hu
  have HCL := hid (CloneI_any xs u w hu hl)
  obtain ⟨A1, c1, rfl, _, _, _⟩ := hu.form
  have hlm : (xs.mergeSort fun x y => decide (x ≤ y)).length = xs.length := List.length_mergeSort xs
  have HSO := hid (fun (w1 : World) (v : Value) (h : w1.ownsRow w.heap.size 2 1 v xs.length (i64s xs)) (h2 : Below w.heap.size w w1) => SortI_any w.heap.size xs v w1 h h2.size hl)
  have HCO := hid (fun (w1 : World) (v : Value) (h : w1.ownsRow w.heap.size 2 1 v (xs.mergeSort fun x y => decide (x ≤ y)).length (i64s (xs.mergeSort fun x y => decide (x ≤ y)))) (h2 : Below w.heap.size w w1) => CompactI_any w.heap.size _ v w1 h h2.size (by omega))
  have HUP := hid (up_I (dictI_spec xs).1)
  have HBG := hid (dictI_big xs)
  have HDB := hid (dictB_I xs)
  have HDF := hid (fun h => congrArg List.length (dictI_diff xs h))
  have HDL := hid (dictI_le xs)
  change Hid (∀ (w1 : World) (v : Value), w1.ownsRow w.heap.size 2 1 v (xs.mergeSort fun x y => decide (x ≤ y)).length (i64s (xs.mergeSort fun x y => decide (x ≤ y))) → Below w.heap.size w w1 → Calls Tryz.prog 110 #[v] w1 fun e w' => ∃ v', e = .returned v' ∧ w'.ownsRow w.heap.size 2 1 v' (dictI xs).length (i64s (dictI xs)) ∧ Below w.heap.size w1 w') at HCO
  rw [hlm] at HCO
  have HSO2 : Hid (∀ (w1 : World) (v : Value) (h : w1.ownsRow w.heap.size 2 1 v xs.length (i64s xs)) (h2 : Below w.heap.size w w1), Calls Tryz.prog 109 #[v] w1 fun e w' => e = .returned (.tuple #[]) ∧ w'.ownsRow w.heap.size 2 1 v xs.length (i64s (xs.mergeSort fun x y => decide (x ≤ y))) ∧ Below w.heap.size w1 w') := hid (by
    intro w1 v h h2; have h3 := HSO.out w1 v h h2; rw [hlm] at h3; exact h3)
  clear HSO hlm hu
  generalize xs.mergeSort (fun x y => decide (x ≤ y)) = ms at *
  obtain ⟨n, hn⟩ : ∃ n, xs.length = n := ⟨_, rfl⟩
  have HN := hid hn
  simp only [hn] at HU HCL HSO2 HCO HDL hl
  simp only [hn]
  generalize dictI xs = D at *
  obtain ⟨d, hd⟩ : ∃ d, D.length = d := ⟨_, rfl⟩
  have HD := hid hd
  simp only [hd] at HCO HBG HDB HDF HDL
  have hd9 : d ≤ n := HDL.out
  clear hd hn
  generalize xs.map pI = vs at *
  obtain ⟨R0, hR0⟩ : ∃ R0, dictB 1 vs = R0 := ⟨_, rfl⟩
  obtain ⟨nw, hnw⟩ : ∃ nw, needN (diffP vs).length = nw := ⟨_, rfl⟩
  obtain ⟨ok, hok⟩ : ∃ ok, decide ((diffP vs).length ≤ 256) = ok := ⟨_, rfl⟩
  rw [hR0, hnw, hok]
  have HRR := hid hR0
  have HNW := hid hnw
  have HOK := hid hok
  clear hR0 hnw hok
  go_enter Tryz.func180, Tryz.ntmps180
  by_cases hbig : 256 < d
  · have hbg : (d : Int) > 256 := by omega
    have hno : ok = false := HOK.out.symm.trans (decide_eq_false (by have := HBG.out hbig; omega))
    subst hno
    go_wp2_with (first
      | (go_at_call 227; refine HCL.out.mono ?_; rintro e w1 ⟨v1, rfl, h1, h2⟩; obtain ⟨A2, c2, rfl, _⟩ := owns_form h1; have H1 := hid h1; have H2 := hid h2; clear h1 h2)
      | (go_at_call 109; refine (HSO2.out w1 _ H1.out H2.out).mono ?_; rintro e w2 ⟨rfl, h1, h2⟩; have K1 := hid h1; have K2 := hid (H2.out.trans h2); clear h1 h2)
      | (go_at_call 110; refine (HCO.out w2 _ K1.out K2.out).mono ?_; rintro e w3 ⟨v3, rfl, h1, h2⟩; obtain ⟨A3, c3, rfl, _⟩ := owns_form h1; have L1 := hid h1; have L2 := hid (K2.out.trans h2); clear h1 h2))
    go_ret3
    exact ⟨_, _, rfl, ⟨_, _, _, rfl⟩, fun h => (by cases h), L2.out⟩
  · have hbg : ¬ (d : Int) > 256 := by omega
    have HDB2 := hid (HDB.out (by omega))
    have HDF2 := hid (HDF.out (by omega))
    have HDE : Hid ((diffP vs).length = d) := hid (by rw [HDF2.out, List.length_map]; exact HD.out)
    have hyes : ok = true := HOK.out.symm.trans (decide_eq_true (by rw [HDE.out]; omega))
    subst hyes
    rw [HDE.out] at HNW
    rw [HDB2.out] at HRR
    clear HBG HDB HDF HDB2 HDF2 HDE HOK
    go_upto_region 6 with (first
      | (go_at_call 227; refine HCL.out.mono ?_; rintro e w1 ⟨v1, rfl, h1, h2⟩; obtain ⟨A2, c2, rfl, _⟩ := owns_form h1; have H1 := hid h1; have H2 := hid h2; clear h1 h2)
      | (go_at_call 109; refine (HSO2.out w1 _ H1.out H2.out).mono ?_; rintro e w2 ⟨rfl, h1, h2⟩; have K1 := hid h1; have K2 := hid (H2.out.trans h2); clear h1 h2)
      | (go_at_call 110; refine (HCO.out w2 _ K1.out K2.out).mono ?_; rintro e w3 ⟨v3, rfl, h1, h2⟩; obtain ⟨A3, c3, rfl, _⟩ := owns_form h1; have L1 := hid h1; have L2 := hid (K2.out.trans h2); clear h1 h2))
    have HDR := hid (owns_rd L1.out)
    have HU3 := hid (HU.out.mono L2.out)
    clear HCL HSO2 HCO H1 H2 K1 K2 L1 HU
    go_wp2
    refine upon_make 40 (.int .u64 0) 8 Tryz.underlying28 Tryz.info45 rfl n (by omega) (by omega) (by omega) (by unfold maxLen; omega) ?_
    intro w4 hrow4 hb4 hsz4
    obtain ⟨q, hq⟩ : ∃ q, w3.heap.size = q := ⟨_, rfl⟩
    have HQ := hid hq
    have HB0 := hid L2.out.size
    rw [hq] at hrow4 hb4 hsz4 ⊢
    have HROW4 := hid hrow4
    have HB4 := hid hb4
    clear hrow4 hb4 hq
    have HLC : Hid ((codesI D xs).length = n) := hid (by unfold codesI; rw [List.length_map]; exact HN.out)
    have HTK := hid (fun (j : Nat) (h : j < xs.length) => (show (codesI D xs).take (j + 1) = (codesI D xs).take j ++ [firstGe D (xs.getD j 0)] from take_mapd_snoc (firstGe D) xs 0 j h))
    have HCV : Hid (∀ x ∈ codesI D xs, x < 18446744073709551616) := hid (by
      intro x hx
      obtain ⟨y, _, rfl⟩ := List.mem_map.1 hx
      have := firstGe_le D y
      rw [HD.out] at this; omega)
    generalize codesI D xs = ls at *
    go_wp2
    go_loopw [31] (fun i wr => ∃ j : Nat, j ≤ n ∧ i = .int .i64 j ∧ Hid (Row wr q 40 (u64s (ls.take j) ++ List.replicate (n - j) (.int .u64 0))) ∧ Hid (Below q w3 wr) ∧ Hid (q < wr.heap.size)) (fun i _ => n - (intOf i).toNat)
    case atStart => exact ⟨0, by omega, rfl, hid (by simpa [u64s] using HROW4.out), HB4, hid (by omega)⟩
    case round =>
      obtain ⟨j, hj, rfl, HR, HB, HZ⟩ := hrel
      by_cases hlt : j < n
      · obtain ⟨b, o, rfl, hs⟩ := (HU3.out.mono (by rw [HQ.out]; exact HB.out)).atI (by omega)
        have e1 := hs j (by rw [HN.out]; exact hlt)
        clear hs
        have HT := hid (HTK.out j (by rw [HN.out]; exact hlt))
        generalize xs.getD j 0 = x at *
        have HBS := hid (BinarySearch64_any (.slice A3 d c3) D x wr (by have h9 := HDR.out.mono (by rw [HQ.out]; exact HB.out); rw [HD.out]; exact h9) (by rw [HD.out]; omega) HUP.out)
        have hpl := firstGe_le D x
        rw [HD.out] at hpl
        generalize firstGe D x = p at *
        have hpu : IntKind.u64.wrap (p : Int) = (p : Int) := by rw [IntKind.wrap_u64]; omega
        go_wp2_with (go_at_call 207; refine HBS.out.mono ?_; rintro e w5 ⟨⟨bb, rfl⟩, nn, hw5⟩; have HR5 : Hid (Row w5 q 40 (u64s (ls.take j) ++ List.replicate (n - j) (.int .u64 0))) := (hid (by rw [hw5]; exact HR.out.drewN nn)); have HB5 : Hid (Below q w3 w5) := (hid (by rw [hw5]; exact Go.below_drewN HB.out nn)); have HZ5 : Hid (q < w5.heap.size) := (hid (by rw [hw5]; exact HZ.out)); clear hw5; have hcell : w5.cell? ⟨q, j, none⟩ = some (.int .u64 0) := (by rw [HR5.out.cell]; exact get_fill _ _ _ _ (by simp [u64s, List.length_take, HLC.out]; omega) (by omega)); have hfr := HR5.out.frozen j)
        go_roundw
        case rel =>
          refine ⟨j + 1, by omega, by go_num, hid ?_, hid (below_set HB5.out _ _ _ (Nat.le_refl _)), hid (by simpa [World.setCell] using HZ5.out)⟩
          have hss := HR5.out.set j (.int .u64 (p : Int))
          rw [set_fill _ _ _ _ _ (by simp [u64s, List.length_take, HLC.out]; omega) (by omega)] at hss
          rw [HT.out, u64s_append, ← Nat.sub_sub n j 1]
          exact hss
        case measure => simp [intOf]; omega
      · obtain rfl : j = n := by omega
        have htk : ls.take j = ls := by rw [← HLC.out, List.take_length]
        rw [htk, Nat.sub_self, List.replicate_zero, List.append_nil] at HR
        have HRD := hid (owns_rd (HR.out.owns (B := q) (Nat.le_refl _) (n := j) (by rw [u64s_length, HLC.out]) (by unfold maxLen; omega)))
        have HND := hid (fun (w2 : World) => Need_any d w2 (by omega))
        generalize needN d = nd at *
        have HPK := hid (fun (w2 : World) (h : Below wr.heap.size wr w2) => Pack_any (.slice (some ⟨q, 0, none⟩) j j) ls (nd : Nat) w2 (by rw [HLC.out]; exact HRD.out.mono h) HCV.out (by rw [HLC.out]; unfold maxLen; omega))
        have HWL := hid (packR_lt64 (nd : Nat) ls)
        have HWN := hid (packR_le (nd : Nat) ls (by rw [HLC.out]; exact hl))
        generalize okVals (nd : Nat) ls = okp at *
        generalize packR (nd : Nat) ls = ws at *
        have HBW : Hid (Below w3.heap.size w3 wr) := hid (by rw [HQ.out]; exact HB.out)
        have HDR2 := hid (HDR.out.mono HBW.out)
        have HBWW := hid (L2.out.trans (HBW.out.mono L2.out.size))
        clear HR HB HTK HCV HU3 HUP
        generalize wr = w5 at *
        have HN0 := hid (fun (w2 : World) => AppendU32_any w2.heap.size (.slice none 0 0) [] d w2 (OwnB.nil _ _) (Nat.le_refl _) (by omega) (by simp))
        simp only [List.nil_append] at HN0
        have HHH : Hid ((leN 4 d).length = 4) := hid (leN_length 4 d)
        generalize leN 4 d = hd at *
        have HPL := hid (fun (A5 : Option Addr) (c5 : Nat) (w0 w6 : World) (h0 : Rd w0 (.slice A3 d c3) d 1 (i64s D)) (h1 : OwnB w0.heap.size w6 (.slice A5 hd.length c5) hd) (h2 : Below w0.heap.size w0 w6) => AppendListI_any w0.heap.size (.slice A5 hd.length c5) (.slice A3 d c3) hd D w6 h1 (Stay.low (by rw [HD.out]; exact h0) h2 (Nat.le_refl _)) h2.size (by rw [HHH.out]; omega) (by rw [HD.out]; omega))
        have HBL : Hid ((hd ++ le8I D).length = 4 + 8 * d) := hid (by rw [List.length_append, HHH.out, le8I_len, HD.out])
        generalize hd ++ le8I D = bs at *
        have HPA := hid (fun (A5 : Option Addr) (c5 : Nat) (A6 : Option Addr) (c6 : Nat) (w0 w6 : World) (h0 : Rd w0 (.slice A6 ws.length c6) ws.length 1 (u64s ws)) (h1 : OwnB w0.heap.size w6 (.slice A5 bs.length c5) bs) (h2 : Below w0.heap.size w0 w6) => AppendU64s_any w0.heap.size (.slice A5 bs.length c5) (.slice A6 ws.length c6) bs ws w6 h1 (Stay.low h0 h2 (Nat.le_refl _)) HWL.out h2.size (by rw [HBL.out]; omega) HWN.out)
        generalize bs ++ le8 ws = R at *
        have hma := m_Append_I
        go_wp2_with (first
          | (go_at_call 184; refine (HND.out _).mono ?_; rintro e w6 ⟨rfl, hw⟩; replace hw := hw.symm; subst hw)
          | (go_at_call 221; refine (HPK.out _ (brefl _)).mono ?_; rintro e w6 ⟨r, rfl, h1, h2⟩; obtain ⟨A6, c6, rfl, _⟩ := owns_form h1; have P1 := hid (owns_rd h1); have P2 := hid h2; clear h1 h2)
          | (go_at_call 222; refine (HN0.out w6).mono ?_; rintro e w7 ⟨r, rfl, h1, h2, h3, h4⟩; obtain ⟨A7, c7, rfl⟩ := h1.form; have Q1 := hid h1; have Q2 := hid h2; clear h1 h2 h3 h4)
          | (go_at_call 270; refine (HPL.out _ _ w6 w7 (HDR2.out.mono P2.out) Q1.out Q2.out).mono ?_; rintro e w8 ⟨r, rfl, h1, h2, h3, h4⟩; obtain ⟨A8, c8, rfl⟩ := h1.form; have R1 := hid h1; have R2 := hid (Q2.out.trans h2); clear h1 h2 h3 h4 hma)
          | (go_at_call 134; refine (HPA.out _ _ _ _ w6 w8 P1.out R1.out R2.out).mono ?_; rintro e w9 ⟨r, rfl, h1, h2, h3, h4⟩; obtain ⟨A9, c9, rfl⟩ := h1.form; have S1 := hid h1; have S2 := hid (R2.out.trans h2); clear h1 h2 h3 h4))
        go_ret3
        have G2 := hid (HBWW.out.trans ((P2.out.trans (S2.out.mono P2.out.size)).mono HBWW.out.size))
        have G1 : Hid (OwnB w.heap.size w9 (.slice A9 R.length c9) R0) := hid (by rw [← HRR.out]; exact owns_low S1.out (Nat.le_trans HBWW.out.size P2.out.size))
        have G3 : Hid ((nd : Int) = nw) := hid (by rw [HNW.out])
        exact ⟨_, _, rfl, ⟨_, _, _, rfl⟩, fun _ => ⟨G3.out, G1.out⟩, G2.out⟩
end Go.Proofs.YthonbfojpbfmgaaGreatDoor

/- Package codec: the payload by a dictionary, of strings. -/
set_option linter.unusedVariables false
set_option linter.unusedSimpArgs false
set_option linter.unnecessarySimpa false
set_option maxRecDepth 100000
namespace Go.Proofs.YthonbfojpbfmgaaGreatDoor
open Go.RowKit Go.Sort

def codesS (D ss : List ByteArray) : List Nat := ss.map (firstGeS D)
theorem up_S {D : List ByteArray} (h : (D.map pS).Pairwise (fun a b => gtP b a)) : ∀ a b, a < b → b < D.length → ltS (D.getD a ByteArray.empty) (D.getD b ByteArray.empty) = true := by
  intro a b h1 h2
  rw [List.pairwise_map] at h
  have h3 := List.pairwise_iff_getElem.1 h a b (by omega) h2 h1
  simp only [List.getD, List.getElem?_eq_getElem h2, List.getElem?_eq_getElem (show a < D.length by omega), Option.getD_some]
  unfold gtP pS at h3
  rcases h3 with h3 | ⟨_, h3⟩
  · exact absurd h3 (by simp)
  · exact h3
theorem ltS_irrefl (x : ByteArray) : ltS x x = false := bytesLess_self _
theorem place_S {D : List ByteArray} (h : (D.map pS).Pairwise (fun a b => gtP b a)) {x : ByteArray} (hx : x ∈ D) : placeP (D.map pS) (pS x) = firstGeS D x := by
  obtain ⟨t, ht, hxt⟩ := List.getElem_of_mem hx
  have hg : D.getD t ByteArray.empty = x := by simp [List.getD, List.getElem?_eq_getElem ht, hxt]
  have hup := up_S h
  have hgd : ∀ u, u < D.length → (D.map pS).getD u dfP = pS (D.getD u ByteArray.empty) := fun u hu => by simp [List.getD, List.getElem?_eq_getElem hu]
  rw [placeP_found (D.map pS) (pS x) t (by simpa using ht) (fun u hu => by
    rw [hgd u (by omega), eqP_pS]
    have h1 := hup u t hu ht
    rw [hg] at h1
    refine beq_eq_false_iff_ne.2 (fun e => ?_)
    unfold ltS at h1
    rw [e, bytesLess_self] at h1; cases h1) (by rw [hgd t ht, eqP_pS, hg]; simp)]
  exact (firstGeS_eq D x t (by omega) (fun a ha => by have h1 := hup a t ha ht; rw [hg] at h1; exact h1) (fun _ => by rw [hg]; exact ltS_irrefl x)).symm
theorem codes_S (ss : List ByteArray) (h : (dictS ss).length ≤ 256) : lanesD (ss.map pS) = codesS (dictS ss) ss := by
  unfold lanesD codesS
  rw [dictS_diff ss h, List.map_map]
  apply List.map_congr_left
  intro x hx
  refine place_S (dictS_spec ss).1 ?_
  have h1 := ((dictS_spec ss).2 (pS x)).2 (List.mem_map.2 ⟨x, hx, rfl⟩)
  obtain ⟨y, hy, e⟩ := List.mem_map.1 h1
  unfold pS at e
  injection e with e1 e2
  rw [← e2]; exact hy
theorem listB_S (D : List ByteArray) : listB 2 (D.map pS) = strsB D := by
  unfold listB headB strsB
  have h1 : (D.map pS).map Prod.snd = D := by
    rw [List.map_map]; exact (List.map_congr_left (fun x _ => rfl)).trans (List.map_id D)
  rw [if_neg (by decide), h1]
theorem dictB_S (ss : List ByteArray) (h : (dictS ss).length ≤ 256) :
    dictB 2 (ss.map pS) = (leN 4 (dictS ss).length ++ strsB (dictS ss)) ++ le8 (packR (needN (dictS ss).length : Nat) (codesS (dictS ss) ss)) := by
  unfold dictB
  rw [codes_S ss h, dictS_diff ss h, listB_S, List.length_map]
theorem dictS_sum (ss : List ByteArray) (h : (dictS ss).length ≤ 256) : sumS (dictS ss) ≤ sumS ss := by
  have h1 := diffP_sum (ss.map pS)
  rw [dictS_diff ss h, sumT_pS, sumT_pS] at h1
  exact h1
theorem strsB_len (xs : List ByteArray) : (strsB xs).length = 4 * xs.length + sumS xs := by
  unfold strsB; rw [List.length_append, le4N_len, endsL_len, textB_len]
theorem firstGeS_le (es : List ByteArray) (t : ByteArray) : firstGeS es t ≤ es.length := List.findIdx_le_length
set_option maxHeartbeats 16000000 in
theorem dictPayloadS_any (xs : List ByteArray) (u : Value) (w : World) (hu : Rd w u xs.length 1 (strs xs)) (hl : xs.length ≤ 1048576) (hs : sumS xs ≤ 67108864) :
    Calls Tryz.prog 174 #[.iface 66 (.agg #[]), u] w fun e w' =>
      PayAns w w' e (needN (diffP (xs.map pS)).length : Nat) (decide ((diffP (xs.map pS)).length ≤ 256)) (dictB 2 (xs.map pS)) := by
  have HU := hid hu
  have HCL := hid (CloneS_any xs u w hu hl)
  obtain ⟨A1, c1, rfl, _, _, _⟩ := hu.form
  have hlm : ((xs.map (·.data.toList)).mergeSort fun x y => decide (x ≤ y)).length = xs.length := by rw [List.length_mergeSort, List.length_map]
  have HSO := hid (fun (w1 : World) (v : Value) (h : w1.ownsRow w.heap.size 9 1 v xs.length (strs xs)) (h2 : Below w.heap.size w w1) => SortS_any w.heap.size (xs.map (·.data.toList)) v w1 (by rw [List.length_map, strs_enc]; exact h) h2.size (by rw [List.length_map]; exact hl))
  have HCO := hid (fun (w1 : World) (v : Value) (h : w1.ownsRow w.heap.size 9 1 v ((xs.map (·.data.toList)).mergeSort fun x y => decide (x ≤ y)).length (((xs.map (·.data.toList)).mergeSort fun x y => decide (x ≤ y)).map encStr)) (h2 : Below w.heap.size w w1) => CompactS_any w.heap.size _ v w1 h h2.size (by omega))
  have HSM := hid (fun h => Nat.le_trans (dictS_sum xs h) hs)
  have HUP := hid (up_S (dictS_spec xs).1)
  have HBG := hid (dictS_big xs)
  have HDB := hid (dictB_S xs)
  have HDF := hid (fun h => congrArg List.length (dictS_diff xs h))
  have HDL := hid (dictS_le xs)
  have HCO2 : Hid (∀ (w1 : World) (v : Value) (h : w1.ownsRow w.heap.size 9 1 v xs.length (((xs.map (·.data.toList)).mergeSort fun x y => decide (x ≤ y)).map encStr)) (h2 : Below w.heap.size w w1), Calls Tryz.prog 104 #[v] w1 fun e w' => ∃ v', e = .returned v' ∧ w'.ownsRow w.heap.size 9 1 v' (dictS xs).length (strs (dictS xs)) ∧ Below w.heap.size w1 w') := hid (by
    intro w1 v h h2
    have h3 := HCO.out w1 v (by rw [hlm]; exact h) h2
    rw [strs_dict, show (Lib.compact ((xs.map (·.data.toList)).mergeSort fun x y => decide (x ≤ y))).length = (dictS xs).length by unfold dictS; rw [List.length_map]] at h3
    exact h3)
  have HSO2 : Hid (∀ (w1 : World) (v : Value) (h : w1.ownsRow w.heap.size 9 1 v xs.length (strs xs)) (h2 : Below w.heap.size w w1), Calls Tryz.prog 103 #[v] w1 fun e w' => e = .returned (.tuple #[]) ∧ w'.ownsRow w.heap.size 9 1 v xs.length (((xs.map (·.data.toList)).mergeSort fun x y => decide (x ≤ y)).map encStr) ∧ Below w.heap.size w1 w') := hid (by
    intro w1 v h h2; have h3 := HSO.out w1 v h h2; rw [hlm] at h3; exact h3)
  clear HCO
  clear HSO hlm hu hs
  generalize ((xs.map (·.data.toList)).mergeSort fun x y => decide (x ≤ y)).map encStr = ms at *
  obtain ⟨n, hn⟩ : ∃ n, xs.length = n := ⟨_, rfl⟩
  have HN := hid hn
  simp only [hn] at HU HCL HSO2 HCO2 HDL hl
  simp only [hn]
  generalize dictS xs = D at *
  obtain ⟨d, hd⟩ : ∃ d, D.length = d := ⟨_, rfl⟩
  have HD := hid hd
  simp only [hd] at HCO2 HBG HDB HDF HDL HSM
  have hd9 : d ≤ n := HDL.out
  clear hd hn
  generalize xs.map pS = vs at *
  obtain ⟨R0, hR0⟩ : ∃ R0, dictB 2 vs = R0 := ⟨_, rfl⟩
  obtain ⟨nw, hnw⟩ : ∃ nw, needN (diffP vs).length = nw := ⟨_, rfl⟩
  obtain ⟨ok, hok⟩ : ∃ ok, decide ((diffP vs).length ≤ 256) = ok := ⟨_, rfl⟩
  rw [hR0, hnw, hok]
  have HRR := hid hR0
  have HNW := hid hnw
  have HOK := hid hok
  clear hR0 hnw hok
  go_enter Tryz.func174, Tryz.ntmps174
  by_cases hbig : 256 < d
  · have hbg : (d : Int) > 256 := by omega
    have hno : ok = false := HOK.out.symm.trans (decide_eq_false (by have := HBG.out hbig; omega))
    subst hno
    go_wp2_with (first
      | (go_at_call 220; refine HCL.out.mono ?_; rintro e w1 ⟨v1, rfl, h1, h2⟩; obtain ⟨A2, c2, rfl, _⟩ := owns_form h1; have H1 := hid h1; have H2 := hid h2; clear h1 h2)
      | (go_at_call 103; refine (HSO2.out w1 _ H1.out H2.out).mono ?_; rintro e w2 ⟨rfl, h1, h2⟩; have K1 := hid h1; have K2 := hid (H2.out.trans h2); clear h1 h2)
      | (go_at_call 104; refine (HCO2.out w2 _ K1.out K2.out).mono ?_; rintro e w3 ⟨v3, rfl, h1, h2⟩; obtain ⟨A3, c3, rfl, _⟩ := owns_form h1; have L1 := hid h1; have L2 := hid (K2.out.trans h2); clear h1 h2))
    go_ret3
    exact ⟨_, _, rfl, ⟨_, _, _, rfl⟩, fun h => (by cases h), L2.out⟩
  · have hbg : ¬ (d : Int) > 256 := by omega
    have HDB2 := hid (HDB.out (by omega))
    have HDF2 := hid (HDF.out (by omega))
    have HSD := hid (HSM.out (by omega))
    have HDE : Hid ((diffP vs).length = d) := hid (by rw [HDF2.out, List.length_map]; exact HD.out)
    have hyes : ok = true := HOK.out.symm.trans (decide_eq_true (by rw [HDE.out]; omega))
    subst hyes
    rw [HDE.out] at HNW
    rw [HDB2.out] at HRR
    clear HBG HDB HDF HDB2 HDF2 HDE HOK
    go_upto_region 6 with (first
      | (go_at_call 220; refine HCL.out.mono ?_; rintro e w1 ⟨v1, rfl, h1, h2⟩; obtain ⟨A2, c2, rfl, _⟩ := owns_form h1; have H1 := hid h1; have H2 := hid h2; clear h1 h2)
      | (go_at_call 103; refine (HSO2.out w1 _ H1.out H2.out).mono ?_; rintro e w2 ⟨rfl, h1, h2⟩; have K1 := hid h1; have K2 := hid (H2.out.trans h2); clear h1 h2)
      | (go_at_call 104; refine (HCO2.out w2 _ K1.out K2.out).mono ?_; rintro e w3 ⟨v3, rfl, h1, h2⟩; obtain ⟨A3, c3, rfl, _⟩ := owns_form h1; have L1 := hid h1; have L2 := hid (K2.out.trans h2); clear h1 h2))
    have HDR := hid (owns_rd L1.out)
    have HU3 := hid (HU.out.mono L2.out)
    clear HCL HSO2 HCO2 H1 H2 K1 K2 L1 HU
    go_wp2
    refine upon_make 40 (.int .u64 0) 8 Tryz.underlying28 Tryz.info45 rfl n (by omega) (by omega) (by omega) (by unfold maxLen; omega) ?_
    intro w4 hrow4 hb4 hsz4
    obtain ⟨q, hq⟩ : ∃ q, w3.heap.size = q := ⟨_, rfl⟩
    have HQ := hid hq
    have HB0 := hid L2.out.size
    rw [hq] at hrow4 hb4 hsz4 ⊢
    have HROW4 := hid hrow4
    have HB4 := hid hb4
    clear hrow4 hb4 hq
    have HLC : Hid ((codesS D xs).length = n) := hid (by unfold codesS; rw [List.length_map]; exact HN.out)
    have HTK := hid (fun (j : Nat) (h : j < xs.length) => (show (codesS D xs).take (j + 1) = (codesS D xs).take j ++ [firstGeS D (xs.getD j default)] from take_mapd_snoc (firstGeS D) xs default j h))
    have HCV : Hid (∀ x ∈ codesS D xs, x < 18446744073709551616) := hid (by
      intro x hx
      obtain ⟨y, _, rfl⟩ := List.mem_map.1 hx
      have := firstGeS_le D y
      rw [HD.out] at this; omega)
    generalize codesS D xs = ls at *
    go_wp2
    go_loopw [31] (fun i wr => ∃ j : Nat, j ≤ n ∧ i = .int .i64 j ∧ Hid (Row wr q 40 (u64s (ls.take j) ++ List.replicate (n - j) (.int .u64 0))) ∧ Hid (Below q w3 wr) ∧ Hid (q < wr.heap.size)) (fun i _ => n - (intOf i).toNat)
    case atStart => exact ⟨0, by omega, rfl, hid (by simpa [u64s] using HROW4.out), HB4, hid (by omega)⟩
    case round =>
      obtain ⟨j, hj, rfl, HR, HB, HZ⟩ := hrel
      by_cases hlt : j < n
      · obtain ⟨b, o, rfl, hs⟩ := (HU3.out.mono (by rw [HQ.out]; exact HB.out)).atS (by omega)
        have e1 := hs j (by rw [HN.out]; exact hlt)
        clear hs
        have HT := hid (HTK.out j (by rw [HN.out]; exact hlt))
        generalize xs.getD j default = x at *
        have HBS := hid (BinarySearchS_any (.slice A3 d c3) D x wr (by have h9 := HDR.out.mono (by rw [HQ.out]; exact HB.out); rw [HD.out]; exact h9) (by rw [HD.out]; omega) HUP.out)
        have hpl := firstGeS_le D x
        rw [HD.out] at hpl
        generalize firstGeS D x = p at *
        have hpu : IntKind.u64.wrap (p : Int) = (p : Int) := by rw [IntKind.wrap_u64]; omega
        go_wp2_with (go_at_call 190; refine HBS.out.mono ?_; rintro e w5 ⟨⟨bb, rfl⟩, nn, hw5⟩; have HR5 : Hid (Row w5 q 40 (u64s (ls.take j) ++ List.replicate (n - j) (.int .u64 0))) := (hid (by rw [hw5]; exact HR.out.drewN nn)); have HB5 : Hid (Below q w3 w5) := (hid (by rw [hw5]; exact Go.below_drewN HB.out nn)); have HZ5 : Hid (q < w5.heap.size) := (hid (by rw [hw5]; exact HZ.out)); clear hw5; have hcell : w5.cell? ⟨q, j, none⟩ = some (.int .u64 0) := (by rw [HR5.out.cell]; exact get_fill _ _ _ _ (by simp [u64s, List.length_take, HLC.out]; omega) (by omega)); have hfr := HR5.out.frozen j)
        go_roundw
        case rel =>
          refine ⟨j + 1, by omega, by go_num, hid ?_, hid (below_set HB5.out _ _ _ (Nat.le_refl _)), hid (by simpa [World.setCell] using HZ5.out)⟩
          have hss := HR5.out.set j (.int .u64 (p : Int))
          rw [set_fill _ _ _ _ _ (by simp [u64s, List.length_take, HLC.out]; omega) (by omega)] at hss
          rw [HT.out, u64s_append, ← Nat.sub_sub n j 1]
          exact hss
        case measure => simp [intOf]; omega
      · obtain rfl : j = n := by omega
        have htk : ls.take j = ls := by rw [← HLC.out, List.take_length]
        rw [htk, Nat.sub_self, List.replicate_zero, List.append_nil] at HR
        have HRD := hid (owns_rd (HR.out.owns (B := q) (Nat.le_refl _) (n := j) (by rw [u64s_length, HLC.out]) (by unfold maxLen; omega)))
        have HND := hid (fun (w2 : World) => Need_any d w2 (by omega))
        generalize needN d = nd at *
        have HPK := hid (fun (w2 : World) (h : Below wr.heap.size wr w2) => Pack_any (.slice (some ⟨q, 0, none⟩) j j) ls (nd : Nat) w2 (by rw [HLC.out]; exact HRD.out.mono h) HCV.out (by rw [HLC.out]; unfold maxLen; omega))
        have HWL := hid (packR_lt64 (nd : Nat) ls)
        have HWN := hid (packR_le (nd : Nat) ls (by rw [HLC.out]; exact hl))
        generalize okVals (nd : Nat) ls = okp at *
        generalize packR (nd : Nat) ls = ws at *
        have HBW : Hid (Below w3.heap.size w3 wr) := hid (by rw [HQ.out]; exact HB.out)
        have HDR2 := hid (HDR.out.mono HBW.out)
        have HBWW := hid (L2.out.trans (HBW.out.mono L2.out.size))
        clear HR HB HTK HCV HU3 HUP
        generalize wr = w5 at *
        have HN0 := hid (fun (w2 : World) => AppendU32_any w2.heap.size (.slice none 0 0) [] d w2 (OwnB.nil _ _) (Nat.le_refl _) (by omega) (by simp))
        simp only [List.nil_append] at HN0
        have HHH : Hid ((leN 4 d).length = 4) := hid (leN_length 4 d)
        generalize leN 4 d = hd at *
        have HPL := hid (fun (A5 : Option Addr) (c5 : Nat) (w0 w6 : World) (h0 : Rd w0 (.slice A3 d c3) d 1 (strs D)) (h1 : OwnB w0.heap.size w6 (.slice A5 hd.length c5) hd) (h2 : Below w0.heap.size w0 w6) => AppendListS_any w0.heap.size (.slice A5 hd.length c5) (.slice A3 d c3) hd D w6 h1 (Stay.low (by rw [HD.out]; exact h0) h2 (Nat.le_refl _)) h2.size (by rw [HHH.out]; omega) (by rw [HD.out]; omega) HSD.out)
        have HBL : Hid ((hd ++ strsB D).length ≤ 4 + 4 * d + 67108864) := hid (by rw [List.length_append, HHH.out, strsB_len, HD.out]; have := HSD.out; omega)
        generalize hd ++ strsB D = bs at *
        have HPA := hid (fun (A5 : Option Addr) (c5 : Nat) (A6 : Option Addr) (c6 : Nat) (w0 w6 : World) (h0 : Rd w0 (.slice A6 ws.length c6) ws.length 1 (u64s ws)) (h1 : OwnB w0.heap.size w6 (.slice A5 bs.length c5) bs) (h2 : Below w0.heap.size w0 w6) => AppendU64s_any w0.heap.size (.slice A5 bs.length c5) (.slice A6 ws.length c6) bs ws w6 h1 (Stay.low h0 h2 (Nat.le_refl _)) HWL.out h2.size (by have := HBL.out; omega) HWN.out)
        generalize bs ++ le8 ws = R at *
        have hma := m_Append_S
        go_wp2_with (first
          | (go_at_call 184; refine (HND.out _).mono ?_; rintro e w6 ⟨rfl, hw⟩; replace hw := hw.symm; subst hw)
          | (go_at_call 221; refine (HPK.out _ (brefl _)).mono ?_; rintro e w6 ⟨r, rfl, h1, h2⟩; obtain ⟨A6, c6, rfl, _⟩ := owns_form h1; have P1 := hid (owns_rd h1); have P2 := hid h2; clear h1 h2)
          | (go_at_call 222; refine (HN0.out w6).mono ?_; rintro e w7 ⟨r, rfl, h1, h2, h3, h4⟩; obtain ⟨A7, c7, rfl⟩ := h1.form; have Q1 := hid h1; have Q2 := hid h2; clear h1 h2 h3 h4)
          | (go_at_call 264; refine (HPL.out _ _ w6 w7 (HDR2.out.mono P2.out) Q1.out Q2.out).mono ?_; rintro e w8 ⟨r, rfl, h1, h2, h3, h4⟩; obtain ⟨A8, c8, rfl⟩ := h1.form; have R1 := hid h1; have R2 := hid (Q2.out.trans h2); clear h1 h2 h3 h4 hma)
          | (go_at_call 134; refine (HPA.out _ _ _ _ w6 w8 P1.out R1.out R2.out).mono ?_; rintro e w9 ⟨r, rfl, h1, h2, h3, h4⟩; obtain ⟨A9, c9, rfl⟩ := h1.form; have S1 := hid h1; have S2 := hid (R2.out.trans h2); clear h1 h2 h3 h4))
        go_ret3
        have G2 := hid (HBWW.out.trans ((P2.out.trans (S2.out.mono P2.out.size)).mono HBWW.out.size))
        have G1 : Hid (OwnB w.heap.size w9 (.slice A9 R.length c9) R0) := hid (by rw [← HRR.out]; exact owns_low S1.out (Nat.le_trans HBWW.out.size P2.out.size))
        have G3 : Hid ((nd : Int) = nw) := hid (by rw [HNW.out])
        exact ⟨_, _, rfl, ⟨_, _, _, rfl⟩, fun _ => ⟨G3.out, G1.out⟩, G2.out⟩
end Go.Proofs.YthonbfojpbfmgaaGreatDoor

/- Package codec: the payload of a codec, of both kinds. -/
set_option linter.unusedVariables false
set_option linter.unusedSimpArgs false
set_option linter.unnecessarySimpa false
set_option maxRecDepth 100000
namespace Go.Proofs.YthonbfojpbfmgaaGreatDoor
open Go.RowKit

theorem PayAns.form {w w' : World} {e : Ending} {wo : Int} {ok : Bool} {bs : List Nat} (h : PayAns w w' e wo ok bs) : ∃ (A : Option Addr) (n c : Nat) (wr : Int), e = .returned (.tuple #[.slice A n c, .int .i64 wr, .bool ok]) ∧ (ok = true → wr = wo ∧ OwnB w.heap.size w' (.slice A n c) bs) ∧ Below w.heap.size w w' := by
  obtain ⟨r, wr, rfl, ⟨A, n, c, rfl⟩, h1, h2⟩ := h
  exact ⟨A, n, c, wr, rfl, h1, h2⟩
set_option maxHeartbeats 4000000 in
theorem payloadI_any (code : Nat) (hc : 1 ≤ code ∧ code ≤ 5) (wd : Int) (u : Value) (xs : List Int) (w : World) (hu : Rd w u xs.length 1 (i64s xs)) (hl : xs.length ≤ 1048576) :
    Calls Tryz.prog 136 #[.iface 68 (.agg #[]), u, .int .i64 code, .int .i64 wd] w fun e w' => PayAns w w' e (payW code wd (xs.map pI)) (payOk code wd (xs.map pI)) (payB 1 code wd (xs.map pI)) := by
  have HU := hid hu
  have HAL := hid (AppendListI_any w.heap.size (.slice none 0 0) u [] xs w (OwnB.nil _ _) (Stay.low hu (brefl _) (Nat.le_refl _)) (Nat.le_refl _) (by simp) hl)
  have HDC := hid (dictPayloadI_any xs u w hu hl)
  have HRU := hid (runsPayloadI_any xs u w hu hl)
  have HNU := hid (numbersI_any xs u w hu hl)
  have HFR := hid (fun (v : Value) (w2 : World) (h : Rd w2 v xs.length 1 (i64s xs)) => framePayload_any wd xs v w2 h hl)
  have HPY := hid (fun (v : Value) (w2 : World) (h : Rd w2 v xs.length 1 (i64s xs)) => packedPayload_any wd xs v w2 h hl)
  simp only [List.nil_append, ← listB_I] at HAL
  obtain ⟨A1, c1, rfl, _, _, _⟩ := hu.form
  clear hu
  generalize xs.length = n at *
  generalize xs.map pI = vs at *
  have hcc : code = 1 ∨ code = 2 ∨ code = 3 ∨ code = 4 ∨ code = 5 := by omega
  have hma := m_Append_I
  rcases hcc with rfl | rfl | rfl | rfl | rfl
  · change Calls _ _ _ _ fun e w' => PayAns w w' e 0 true (listB 1 vs)
    generalize listB 1 vs = R at *
    go_enter Tryz.func136, Tryz.ntmps136
    go_wp2_with (go_at_call 270; refine HAL.out.mono ?_; rintro e w1 ⟨r, rfl, h1, h2, h3, h4⟩; obtain ⟨A5, c5, rfl⟩ := h1.form; have K1 := hid h1; have K2 := hid h2; clear h1 h2 h3 h4)
    go_ret3
    exact ⟨_, _, rfl, ⟨_, _, _, rfl⟩, fun _ => ⟨rfl, K1.out⟩, K2.out⟩
  · change Calls _ _ _ _ fun e w' => PayAns w w' e (needN (diffP vs).length : Nat) (decide ((diffP vs).length ≤ 256)) (dictB 1 vs)
    generalize dictB 1 vs = R at *
    generalize decide ((diffP vs).length ≤ 256) = ok at *
    generalize needN (diffP vs).length = nw at *
    go_enter Tryz.func136, Tryz.ntmps136
    go_wp2_with (go_at_call 180; refine HDC.out.mono ?_; rintro e w1 hp; obtain ⟨A5, n5, c5, wr5, rfl, h1, h2⟩ := hp.form; have K1 := hid h1; have K2 := hid h2; clear h1 h2 hp)
    go_ret3
    exact ⟨_, _, rfl, ⟨_, _, _, rfl⟩, K1.out, K2.out⟩
  · change Calls _ _ _ _ fun e w' => PayAns w w' e 0 true (runsB 1 vs)
    generalize runsB 1 vs = R at *
    go_enter Tryz.func136, Tryz.ntmps136
    go_wp2_with (go_at_call 181; refine HRU.out.mono ?_; rintro e w1 ⟨r, rfl, h1, h2⟩; obtain ⟨A5, c5, rfl⟩ := h1.form; have K1 := hid h1; have K2 := hid h2; clear h1 h2)
    go_ret3
    exact ⟨_, _, rfl, ⟨_, _, _, rfl⟩, fun _ => ⟨rfl, K1.out⟩, K2.out⟩
  · change Calls _ _ _ _ fun e w' => PayAns w w' e wd (frameOk wd vs) (frameB wd vs)
    generalize frameB wd vs = R at *
    generalize frameOk wd vs = ok at *
    go_enter Tryz.func136, Tryz.ntmps136
    go_wp2_with (first
      | (go_at_call 182; refine HNU.out.mono ?_; rintro e w1 ⟨r, rfl, h1, h2⟩; obtain ⟨A5, c5, rfl, _⟩ := owns_form h1; have K1 := hid (owns_rd h1); have K2 := hid h2; clear h1 h2)
      | (go_at_call 176; refine (HFR.out _ w1 K1.out).mono ?_; rintro e w2 ⟨r, rfl, ⟨A6, n6, c6, rfl⟩, h1, h2⟩; have L1 := hid h1; have L2 := hid h2; clear h1 h2))
    go_ret3
    exact ⟨_, _, rfl, ⟨_, _, _, rfl⟩, fun h => ⟨rfl, owns_low (L1.out h) K2.out.size⟩, K2.out.trans (L2.out.mono K2.out.size)⟩
  · change Calls _ _ _ _ fun e w' => PayAns w w' e wd (packedOk wd vs) (packedB wd vs)
    generalize packedB wd vs = R at *
    generalize packedOk wd vs = ok at *
    go_enter Tryz.func136, Tryz.ntmps136
    go_wp2_with (first
      | (go_at_call 182; refine HNU.out.mono ?_; rintro e w1 ⟨r, rfl, h1, h2⟩; obtain ⟨A5, c5, rfl, _⟩ := owns_form h1; have K1 := hid (owns_rd h1); have K2 := hid h2; clear h1 h2)
      | (go_at_call 178; refine (HPY.out _ w1 K1.out).mono ?_; rintro e w2 ⟨r, rfl, ⟨A6, n6, c6, rfl⟩, h1, h2⟩; have L1 := hid h1; have L2 := hid h2; clear h1 h2))
    go_ret3
    exact ⟨_, _, rfl, ⟨_, _, _, rfl⟩, fun h => ⟨rfl, owns_low (L1.out h) K2.out.size⟩, K2.out.trans (L2.out.mono K2.out.size)⟩
set_option maxHeartbeats 4000000 in
theorem payloadS_any (code : Nat) (hc : 1 ≤ code ∧ code ≤ 3) (wd : Int) (u : Value) (xs : List ByteArray) (w : World) (hu : Rd w u xs.length 1 (strs xs)) (hl : xs.length ≤ 1048576) (hs : sumS xs ≤ 67108864) :
    Calls Tryz.prog 133 #[.iface 66 (.agg #[]), u, .int .i64 code, .int .i64 wd] w fun e w' => PayAns w w' e (payW code wd (xs.map pS)) (payOk code wd (xs.map pS)) (payB 2 code wd (xs.map pS)) := by
  have HU := hid hu
  have HAL := hid (AppendListS_any w.heap.size (.slice none 0 0) u [] xs w (OwnB.nil _ _) (Stay.low hu (brefl _) (Nat.le_refl _)) (Nat.le_refl _) (by simp) hl hs)
  have HDC := hid (dictPayloadS_any xs u w hu hl hs)
  have HRU := hid (runsPayloadS_any xs u w hu hl hs)
  simp only [List.nil_append, ← listB_S] at HAL
  obtain ⟨A1, c1, rfl, _, _, _⟩ := hu.form
  clear hu
  generalize xs.length = n at *
  generalize xs.map pS = vs at *
  have hcc : code = 1 ∨ code = 2 ∨ code = 3 := by omega
  have hma := m_Append_S
  rcases hcc with rfl | rfl | rfl
  · change Calls _ _ _ _ fun e w' => PayAns w w' e 0 true (listB 2 vs)
    generalize listB 2 vs = R at *
    go_enter Tryz.func133, Tryz.ntmps133
    go_wp2_with (go_at_call 264; refine HAL.out.mono ?_; rintro e w1 ⟨r, rfl, h1, h2, h3, h4⟩; obtain ⟨A5, c5, rfl⟩ := h1.form; have K1 := hid h1; have K2 := hid h2; clear h1 h2 h3 h4)
    go_ret3
    exact ⟨_, _, rfl, ⟨_, _, _, rfl⟩, fun _ => ⟨rfl, K1.out⟩, K2.out⟩
  · change Calls _ _ _ _ fun e w' => PayAns w w' e (needN (diffP vs).length : Nat) (decide ((diffP vs).length ≤ 256)) (dictB 2 vs)
    generalize dictB 2 vs = R at *
    generalize decide ((diffP vs).length ≤ 256) = ok at *
    generalize needN (diffP vs).length = nw at *
    go_enter Tryz.func133, Tryz.ntmps133
    go_wp2_with (go_at_call 174; refine HDC.out.mono ?_; rintro e w1 hp; obtain ⟨A5, n5, c5, wr5, rfl, h1, h2⟩ := hp.form; have K1 := hid h1; have K2 := hid h2; clear h1 h2 hp)
    go_ret3
    exact ⟨_, _, rfl, ⟨_, _, _, rfl⟩, K1.out, K2.out⟩
  · change Calls _ _ _ _ fun e w' => PayAns w w' e 0 true (runsB 2 vs)
    generalize runsB 2 vs = R at *
    go_enter Tryz.func133, Tryz.ntmps133
    go_wp2_with (go_at_call 175; refine HRU.out.mono ?_; rintro e w1 ⟨r, rfl, h1, h2⟩; obtain ⟨A5, c5, rfl⟩ := h1.form; have K1 := hid h1; have K2 := hid h2; clear h1 h2)
    go_ret3
    exact ⟨_, _, rfl, ⟨_, _, _, rfl⟩, fun _ => ⟨rfl, K1.out⟩, K2.out⟩
end Go.Proofs.YthonbfojpbfmgaaGreatDoor

/- Package codec: encode, of integers. -/
set_option linter.unusedVariables false
set_option linter.unusedSimpArgs false
set_option linter.unnecessarySimpa false
set_option maxRecDepth 100000
namespace Go.Proofs.YthonbfojpbfmgaaGreatDoor
open Go.RowKit

def enCode (c : Nat) (wd : Int) (vs : List PV) : Int := if payOk c wd vs = true then 0 else 4
def enB (kd c : Nat) (wd : Int) (cs : List C3) : List Nat := ([c, (payW c wd (valsOf cs)).toNat] ++ le8 (bmL (cs.map C3.n))) ++ payB kd c wd (valsOf cs)
set_option maxHeartbeats 4000000 in
theorem encodeI_any (c : Nat) (wd : Int) (hc : 1 ≤ c ∧ c ≤ 5) (hw : isWd c wd = true) (u : Value) (cs : List C3) (w : World) (hu : Rd w u cs.length 3 (cells3 cs)) (hl : cs.length ≤ 65536) (hv : valsOf cs = ((valsOf cs).map Prod.fst).map pI) (hs : sumT (valsOf cs) ≤ 67108864) :
    Calls Tryz.prog 77 #[.iface 68 (.agg #[]), u, .int .i64 c, .int .i64 wd] w fun e w' => EncAns w w' e (enCode c wd (valsOf cs)) (enB 1 c wd cs) := by
  have HSP := hid (splitI_any u cs w hu hl)
  have hvl := valsOf_len cs
  have HPO := hid (fun (v : Value) (w2 : World) (h : Rd w2 v ((valsOf cs).map Prod.fst).length 1 (i64s ((valsOf cs).map Prod.fst))) => payloadI_any c hc wd v ((valsOf cs).map Prod.fst) w2 h (by rw [List.length_map]; omega))
  rw [← hv] at HPO
  have hck : (isCodec 1 c && isWd c wd) = true := by
    rw [hw, Bool.and_true]
    unfold isCodec
    split
    · rfl
    · exact decide_eq_true ⟨by omega, by omega, rfl⟩
  obtain ⟨pw, hpw, hp64⟩ := payW_nat 1 c wd (valsOf cs) hck
  rw [Int.toNat_natCast] at hpw
  have HPB := hid (payB_len 1 c wd (valsOf cs) (by omega) hs (Nat.le_trans (diffP_sum _) hs))
  unfold enB enCode
  rw [hpw] at HPO ⊢
  rw [Int.toNat_natCast]
  obtain ⟨A1, c1, rfl, _, _, _⟩ := hu.form
  generalize payB 1 c wd (valsOf cs) = pb at *
  obtain ⟨ok, hok⟩ : ∃ ok, payOk c wd (valsOf cs) = ok := ⟨_, rfl⟩
  rw [hok] at HPO ⊢
  have HML := hid (bmL_len (cs.map C3.n))
  have HMX := hid (bmL_isBm (cs.map C3.n)).2.1
  rw [List.length_map] at HML
  have hwl : L.nWords 1 cs.length ≤ 65536 := Nat.le_trans (L.nWords_le (by omega)) (by omega)
  rw [← HML.out] at hwl
  generalize bmL (cs.map C3.n) = ws at *
  generalize (valsOf cs).map Prod.fst = xs at *
  generalize cs.length = n at *
  clear hu hv hs hvl hpw hok hck hw
  obtain ⟨R, hR⟩ : ∃ R, ([c, pw] ++ le8 ws) ++ pb = R := ⟨_, rfl⟩
  rw [hR]
  have HRR := hid hR
  clear hR
  have hcu : IntKind.u8.wrap (c : Int) = (c : Int) := by rw [IntKind.wrap_u8]; omega
  have hpu : IntKind.u8.wrap (pw : Int) = (pw : Int) := by rw [IntKind.wrap_u8]; omega
  go_enter Tryz.func77, Tryz.ntmps77
  cases ok
  · simp only [Bool.false_eq_true, if_false]
    go_wp2_with (first
      | (go_at_call 135; refine HSP.out.mono ?_; rintro e w1 ⟨r1, r2, rfl, h1, h2, h3⟩; obtain ⟨A2, c2, rfl, _, _, _⟩ := h1.form; obtain ⟨A3, c3, rfl, _, _, _⟩ := h2.form; have H1 := hid h1; have H2 := hid h2; have H3 := hid h3; clear h1 h2 h3)
      | (go_at_call 136; refine (HPO.out _ w1 H1.out).mono ?_; rintro e w2 hp; obtain ⟨A5, n5, c5, wr5, rfl, h1, h2⟩ := hp.form; have K2 := hid (H3.out.trans (h2.mono H3.out.size)); clear h1 h2 hp))
    go_ret2
    exact ⟨_, rfl, ⟨⟨_, _, _, rfl⟩, fun _ => rfl⟩, fun h => (by cases h), K2.out⟩
  · simp only [if_true]
    go_upto_region 5 with (first
      | (go_at_call 135; refine HSP.out.mono ?_; rintro e w1 ⟨r1, r2, rfl, h1, h2, h3⟩; obtain ⟨A2, c2, rfl, _, _, _⟩ := h1.form; obtain ⟨A3, c3, rfl, _, _, _⟩ := h2.form; have H1 := hid h1; have H2 := hid h2; have H3 := hid h3; clear h1 h2 h3)
      | (go_at_call 136; refine (HPO.out _ w1 H1.out).mono ?_; rintro e w2 hp; obtain ⟨A5, n5, c5, wr5, rfl, h1, h2⟩ := hp.form; obtain ⟨h4, h5⟩ := h1 rfl; subst h4; have K1 := hid h5; have K2 := hid h2; clear h1 h2 h5 hp))
    obtain ⟨bA, bc, hbb⟩ := K1.out.form
    injection hbb with hb1 hb2 hb3
    subst hb1 hb2 hb3
    have HBR := hid (owns_rd K1.out)
    have HNR := hid (H2.out.mono K2.out)
    have HB2 := hid (H3.out.trans (K2.out.mono H3.out.size))
    clear HSP HPO H1 H2 H3 K1 K2
    go_upto_region 6 with fail
    have HW6 := hid ((brefl w2).alloc (Nat.le_refl _) (.cells #[.int .u8 (c : Int), .int .u8 (pw : Int)] 5))
    have HO6 : Hid (OwnB w2.heap.size (w2.alloc (.cells #[.int .u8 (c : Int), .int .u8 (pw : Int)] 5)) (.slice (some ⟨w2.heap.size, 0, none⟩) 2 2) [c, pw]) := hid (own_two w2 _ _)
    have HS6 := hid (show w2.heap.size < (w2.alloc (.cells #[.int .u8 (c : Int), .int .u8 (pw : Int)] 5)).heap.size by simp)
    generalize w2.alloc (.cells #[.int .u8 (c : Int), .int .u8 (pw : Int)] 5) = w6 at *
    have HPA := hid (AppendU64s_any w2.heap.size (.slice (some ⟨w2.heap.size, 0, none⟩) 2 2) (.slice A3 ws.length c3) [c, pw] ws w6 HO6.out (Stay.low HNR.out HW6.out (Nat.le_refl _)) HMX.out HW6.out.size (by simp) (by omega))
    have HLEN : Hid (([c, pw] ++ le8 ws).length = 2 + 8 * ws.length) := hid (by rw [List.length_append, le8_len]; rfl)
    generalize [c, pw] ++ le8 ws = os at *
    have HQ2 := hid (show w2.heap.size ≤ w2.heap.size from Nat.le_refl _)
    generalize hq : w2.heap.size = q at HPA HO6 HS6 ⊢
    have HQ := hid hq
    clear hq
    go_wp2_with (first
      | (go_at_call 134; refine HPA.out.mono ?_; rintro e w7 ⟨r, rfl, h1, h2, h3, h4⟩; obtain ⟨A7, c7, rfl⟩ := h1.form; have L1 := hid h1; have L2 := hid (HW6.out.trans (by rw [HQ.out]; exact h2)); clear h1 h2 h3 h4; have HBR2 := hid (HBR.out.mono L2.out); have HSZ := hid (show q ≤ w7.heap.size by rw [← HQ.out]; exact L2.out.size))
      | (at_builtin; refine wpList_appendM rfl (.tmp 40) (.tmp 41) rfl 5 (.int .u8 0) 1 Tryz.underlying22 Tryz.infoU8 rfl rfl rfl L1.out HSZ.out HBR2.out (oneCell_u8s pb) (by have := HLEN.out; have := HPB.out; unfold maxLen; omega) (by have := HLEN.out; have := HPB.out; omega) ?_; intro v' w' ho hb3; have HFO := hid ho; have HFB := hid hb3; clear ho hb3))
    obtain ⟨A9, c9, rfl, _⟩ := owns_form HFO.out
    go_ret2
    have G2 := hid (HB2.out.trans ((L2.out.trans (by rw [HQ.out]; exact HFB.out)).mono HB2.out.size))
    have G1 : Hid (OwnB w.heap.size w' (.slice A9 (os.length + pb.length) c9) R) := hid (by
      unfold OwnB
      rw [← HRR.out]
      rw [List.length_append, show u8s (os ++ pb) = u8s os ++ u8s pb by simp [u8s]]
      exact owns_low HFO.out (by rw [← HQ.out]; exact HB2.out.size))
    exact ⟨_, rfl, ⟨⟨_, _, _, rfl⟩, fun h => absurd rfl h⟩, fun _ => G1.out, G2.out⟩
end Go.Proofs.YthonbfojpbfmgaaGreatDoor

/- Package codec: encode, of strings. -/
set_option linter.unusedVariables false
set_option linter.unusedSimpArgs false
set_option linter.unnecessarySimpa false
set_option maxRecDepth 100000
namespace Go.Proofs.YthonbfojpbfmgaaGreatDoor
open Go.RowKit

set_option maxHeartbeats 4000000 in
theorem encodeS_any (c : Nat) (wd : Int) (hc : 1 ≤ c ∧ c ≤ 3) (hw : isWd c wd = true) (u : Value) (cs : List C3) (w : World) (hu : Rd w u cs.length 3 (cells3 cs)) (hl : cs.length ≤ 65536) (hv : valsOf cs = ((valsOf cs).map Prod.snd).map pS) (hs : sumT (valsOf cs) ≤ 67108864) :
    Calls Tryz.prog 76 #[.iface 66 (.agg #[]), u, .int .i64 c, .int .i64 wd] w fun e w' => EncAns w w' e (enCode c wd (valsOf cs)) (enB 2 c wd cs) := by
  have HSP := hid (splitS_any u cs w hu hl)
  have hvl := valsOf_len cs
  have HPO := hid (fun (v : Value) (w2 : World) (h : Rd w2 v ((valsOf cs).map Prod.snd).length 1 (strs ((valsOf cs).map Prod.snd))) => payloadS_any c hc wd v ((valsOf cs).map Prod.snd) w2 h (by rw [List.length_map]; omega) hs)
  rw [← hv] at HPO
  have hck : (isCodec 2 c && isWd c wd) = true := by
    rw [hw, Bool.and_true]
    unfold isCodec
    split
    · rfl
    · omega
  obtain ⟨pw, hpw, hp64⟩ := payW_nat 2 c wd (valsOf cs) hck
  rw [Int.toNat_natCast] at hpw
  have HPB := hid (payB_len 2 c wd (valsOf cs) (by omega) hs (Nat.le_trans (diffP_sum _) hs))
  unfold enB enCode
  rw [hpw] at HPO ⊢
  rw [Int.toNat_natCast]
  obtain ⟨A1, c1, rfl, _, _, _⟩ := hu.form
  generalize payB 2 c wd (valsOf cs) = pb at *
  obtain ⟨ok, hok⟩ : ∃ ok, payOk c wd (valsOf cs) = ok := ⟨_, rfl⟩
  rw [hok] at HPO ⊢
  have HML := hid (bmL_len (cs.map C3.n))
  have HMX := hid (bmL_isBm (cs.map C3.n)).2.1
  rw [List.length_map] at HML
  have hwl : L.nWords 1 cs.length ≤ 65536 := Nat.le_trans (L.nWords_le (by omega)) (by omega)
  rw [← HML.out] at hwl
  generalize bmL (cs.map C3.n) = ws at *
  generalize (valsOf cs).map Prod.snd = xs at *
  generalize cs.length = n at *
  clear hu hv hs hvl hpw hok hck hw
  obtain ⟨R, hR⟩ : ∃ R, ([c, pw] ++ le8 ws) ++ pb = R := ⟨_, rfl⟩
  rw [hR]
  have HRR := hid hR
  clear hR
  have hcu : IntKind.u8.wrap (c : Int) = (c : Int) := by rw [IntKind.wrap_u8]; omega
  have hpu : IntKind.u8.wrap (pw : Int) = (pw : Int) := by rw [IntKind.wrap_u8]; omega
  go_enter Tryz.func76, Tryz.ntmps76
  cases ok
  · simp only [Bool.false_eq_true, if_false]
    go_wp2_with (first
      | (go_at_call 132; refine HSP.out.mono ?_; rintro e w1 ⟨r1, r2, rfl, h1, h2, h3⟩; obtain ⟨A2, c2, rfl, _, _, _⟩ := h1.form; obtain ⟨A3, c3, rfl, _, _, _⟩ := h2.form; have H1 := hid h1; have H2 := hid h2; have H3 := hid h3; clear h1 h2 h3)
      | (go_at_call 133; refine (HPO.out _ w1 H1.out).mono ?_; rintro e w2 hp; obtain ⟨A5, n5, c5, wr5, rfl, h1, h2⟩ := hp.form; have K2 := hid (H3.out.trans (h2.mono H3.out.size)); clear h1 h2 hp))
    go_ret2
    exact ⟨_, rfl, ⟨⟨_, _, _, rfl⟩, fun _ => rfl⟩, fun h => (by cases h), K2.out⟩
  · simp only [if_true]
    go_upto_region 5 with (first
      | (go_at_call 132; refine HSP.out.mono ?_; rintro e w1 ⟨r1, r2, rfl, h1, h2, h3⟩; obtain ⟨A2, c2, rfl, _, _, _⟩ := h1.form; obtain ⟨A3, c3, rfl, _, _, _⟩ := h2.form; have H1 := hid h1; have H2 := hid h2; have H3 := hid h3; clear h1 h2 h3)
      | (go_at_call 133; refine (HPO.out _ w1 H1.out).mono ?_; rintro e w2 hp; obtain ⟨A5, n5, c5, wr5, rfl, h1, h2⟩ := hp.form; obtain ⟨h4, h5⟩ := h1 rfl; subst h4; have K1 := hid h5; have K2 := hid h2; clear h1 h2 h5 hp))
    obtain ⟨bA, bc, hbb⟩ := K1.out.form
    injection hbb with hb1 hb2 hb3
    subst hb1 hb2 hb3
    have HBR := hid (owns_rd K1.out)
    have HNR := hid (H2.out.mono K2.out)
    have HB2 := hid (H3.out.trans (K2.out.mono H3.out.size))
    clear HSP HPO H1 H2 H3 K1 K2
    go_upto_region 6 with fail
    have HW6 := hid ((brefl w2).alloc (Nat.le_refl _) (.cells #[.int .u8 (c : Int), .int .u8 (pw : Int)] 5))
    have HO6 : Hid (OwnB w2.heap.size (w2.alloc (.cells #[.int .u8 (c : Int), .int .u8 (pw : Int)] 5)) (.slice (some ⟨w2.heap.size, 0, none⟩) 2 2) [c, pw]) := hid (own_two w2 _ _)
    have HS6 := hid (show w2.heap.size < (w2.alloc (.cells #[.int .u8 (c : Int), .int .u8 (pw : Int)] 5)).heap.size by simp)
    generalize w2.alloc (.cells #[.int .u8 (c : Int), .int .u8 (pw : Int)] 5) = w6 at *
    have HPA := hid (AppendU64s_any w2.heap.size (.slice (some ⟨w2.heap.size, 0, none⟩) 2 2) (.slice A3 ws.length c3) [c, pw] ws w6 HO6.out (Stay.low HNR.out HW6.out (Nat.le_refl _)) HMX.out HW6.out.size (by simp) (by omega))
    have HLEN : Hid (([c, pw] ++ le8 ws).length = 2 + 8 * ws.length) := hid (by rw [List.length_append, le8_len]; rfl)
    generalize [c, pw] ++ le8 ws = os at *
    have HQ2 := hid (show w2.heap.size ≤ w2.heap.size from Nat.le_refl _)
    generalize hq : w2.heap.size = q at HPA HO6 HS6 ⊢
    have HQ := hid hq
    clear hq
    go_wp2_with (first
      | (go_at_call 134; refine HPA.out.mono ?_; rintro e w7 ⟨r, rfl, h1, h2, h3, h4⟩; obtain ⟨A7, c7, rfl⟩ := h1.form; have L1 := hid h1; have L2 := hid (HW6.out.trans (by rw [HQ.out]; exact h2)); clear h1 h2 h3 h4; have HBR2 := hid (HBR.out.mono L2.out); have HSZ := hid (show q ≤ w7.heap.size by rw [← HQ.out]; exact L2.out.size))
      | (at_builtin; refine wpList_appendM rfl (.tmp 40) (.tmp 41) rfl 5 (.int .u8 0) 1 Tryz.underlying22 Tryz.infoU8 rfl rfl rfl L1.out HSZ.out HBR2.out (oneCell_u8s pb) (by have := HLEN.out; have := HPB.out; unfold maxLen; omega) (by have := HLEN.out; have := HPB.out; omega) ?_; intro v' w' ho hb3; have HFO := hid ho; have HFB := hid hb3; clear ho hb3))
    obtain ⟨A9, c9, rfl, _⟩ := owns_form HFO.out
    go_ret2
    have G2 := hid (HB2.out.trans ((L2.out.trans (by rw [HQ.out]; exact HFB.out)).mono HB2.out.size))
    have G1 : Hid (OwnB w.heap.size w' (.slice A9 (os.length + pb.length) c9) R) := hid (by
      unfold OwnB
      rw [← HRR.out]
      rw [List.length_append, show u8s (os ++ pb) = u8s os ++ u8s pb by simp [u8s]]
      exact owns_low HFO.out (by rw [← HQ.out]; exact HB2.out.size))
    exact ⟨_, rfl, ⟨⟨_, _, _, rfl⟩, fun h => absurd rfl h⟩, fun _ => G1.out, G2.out⟩
end Go.Proofs.YthonbfojpbfmgaaGreatDoor

/- Package codec: Encode. -/
set_option linter.unusedVariables false
set_option linter.unusedSimpArgs false
set_option linter.unnecessarySimpa false
set_option maxRecDepth 100000
namespace Go.Proofs.YthonbfojpbfmgaaGreatDoor
open Go.RowKit

theorem isCodec_kind {k c : Int} (h : isCodec k c = true) : isKind k = true := by
  unfold isCodec at h
  split at h
  · exact h
  · simp only [decide_eq_true_eq] at h
    unfold isKind; exact decide_eq_true (.inl h.2.2)
theorem encBad_eq (k c wd : Int) (cs : List C3) : encBad k c wd cs = !(areC k cs && (isCodec k c && isWd c wd)) := by
  unfold encBad areC
  cases hc : isCodec k c with
  | false => simp
  | true =>
    rw [isCodec_kind hc]
    unfold isRows
    cases isWd c wd with
    | false => simp
    | true =>
      by_cases h : 65536 < cs.length
      · rw [decide_eq_true h, decide_eq_false (by omega)]; simp
      · rw [decide_eq_false h, decide_eq_true (by omega)]; simp
theorem vals_I (cs : List C3) (h : cs.all (ofK 1) = true) : valsOf cs = ((valsOf cs).map Prod.fst).map pI := by
  rw [List.map_map]
  refine ((List.map_id _).symm.trans (List.map_congr_left (fun x hx => ?_)))
  unfold valsOf at hx
  obtain ⟨c, hc, rfl⟩ := List.mem_map.1 hx
  obtain ⟨h1, h2⟩ := List.mem_filter.1 hc
  have h3 := List.all_eq_true.1 h c h1
  unfold ofK at h3
  rw [if_neg (by simpa using h2), if_pos rfl] at h3
  show (c.i, c.s) = (c.i, ByteArray.empty)
  refine pv_ext rfl ?_
  show c.s.toList = _
  rw [List.isEmpty_iff] at h3
  rw [h3, ByteArray.toList_eq]; rfl
theorem vals_S (cs : List C3) (h : cs.all (ofK 2) = true) : valsOf cs = ((valsOf cs).map Prod.snd).map pS := by
  rw [List.map_map]
  refine ((List.map_id _).symm.trans (List.map_congr_left (fun x hx => ?_)))
  unfold valsOf at hx
  obtain ⟨c, hc, rfl⟩ := List.mem_map.1 hx
  obtain ⟨h1, h2⟩ := List.mem_filter.1 hc
  have h3 := List.all_eq_true.1 h c h1
  unfold ofK at h3
  rw [if_neg (by simpa using h2), if_neg (by decide)] at h3
  simp only [decide_eq_true_eq] at h3
  show (c.i, c.s) = (0, c.s)
  rw [h3.2.1]
set_option maxHeartbeats 4000000 in
theorem Encode_any (k c wd : Int) (u : Value) (cs : List C3) (w : World) (hu : Rd w u cs.length 3 (cells3 cs)) (hl : cs.length ≤ 1048576) (hs : sumT (valsOf cs) ≤ 67108864) :
    Calls Tryz.prog 44 #[.int .i64 k, u, .int .i64 c, .int .i64 wd] w fun e w' => EncAns w w' e (encCode k c wd cs) (encB k c wd cs) := by
  have HU := hid hu
  have HS := hid hs
  have HAC := hid (AreCells_any k u cs w hu hl)
  have HIC := hid (fun (w2 : World) => IsCodec_any k c w2)
  have HIW := hid (fun (w2 : World) => IsWidth_any c wd w2)
  obtain ⟨A1, c1, rfl, _, _, _⟩ := hu.form
  clear hu hs
  obtain ⟨R, hR⟩ : ∃ R, encB k c wd cs = R := ⟨_, rfl⟩
  obtain ⟨code, hcode⟩ : ∃ code, encCode k c wd cs = code := ⟨_, rfl⟩
  have HRR := hid hR
  have HCO := hid hcode
  rw [hR, hcode]
  clear hR hcode
  unfold encCode at HCO
  rw [encBad_eq] at HCO
  have HYS : Hid (areC k cs = true → isCodec k c = true → isWd c wd = true → cs.length ≤ 65536 ∧ cs.all (ofK k) = true) := hid (fun h1 h2 h3 => by
    unfold areC at h1
    simp only [Bool.and_eq_true] at h1
    refine ⟨?_, h1.2⟩
    have h4 := h1.1.2
    unfold isRows at h4
    simp only [decide_eq_true_eq] at h4; omega)
  obtain ⟨ac, hac⟩ : ∃ ac, areC k cs = ac := ⟨_, rfl⟩
  obtain ⟨ic, hic⟩ : ∃ ic, isCodec k c = ic := ⟨_, rfl⟩
  obtain ⟨iw, hiw⟩ : ∃ iw, isWd c wd = iw := ⟨_, rfl⟩
  rw [hac] at HAC
  rw [hic] at HIC
  rw [hiw] at HIW
  rw [hac, hic, hiw] at HCO HYS
  have HW1 := hid hiw
  have HC1 := hid hic
  clear hac hic hiw
  cases ac
  · have HNO := hid (show code = 5 by rw [← HCO.out]; rfl)
    clear HCO HYS
    go_enter Tryz.func44, Tryz.ntmps44
    go_wp2_with (go_at_call 73; refine HAC.out.mono ?_; rintro e w1 ⟨rfl, h1⟩; have H1 := hid h1; clear h1)
    go_ret2
    exact encAns_no HNO.out (by decide) H1.out
  cases ic
  · have HNO := hid (show code = 5 by rw [← HCO.out]; rfl)
    clear HCO HYS
    go_enter Tryz.func44, Tryz.ntmps44
    go_wp2_with (first
      | (go_at_call 73; refine HAC.out.mono ?_; rintro e w1 ⟨rfl, h1⟩; have H1 := hid h1; clear h1)
      | (go_at_call 74; refine (HIC.out _).mono ?_; rintro e w2 ⟨rfl, hw⟩; replace hw := hw.symm; subst hw))
    go_ret2
    exact encAns_no HNO.out (by decide) H1.out
  cases iw
  · have HNO := hid (show code = 5 by rw [← HCO.out]; rfl)
    clear HCO HYS
    go_enter Tryz.func44, Tryz.ntmps44
    go_wp2_with (first
      | (go_at_call 73; refine HAC.out.mono ?_; rintro e w1 ⟨rfl, h1⟩; have H1 := hid h1; clear h1)
      | (go_at_call 74; refine (HIC.out _).mono ?_; rintro e w2 ⟨rfl, hw⟩; replace hw := hw.symm; subst hw)
      | (go_at_call 75; refine (HIW.out _).mono ?_; rintro e w2 ⟨rfl, hw⟩; replace hw := hw.symm; subst hw))
    go_ret2
    exact encAns_no HNO.out (by decide) H1.out
  obtain ⟨hl9, hall⟩ := HYS.out rfl rfl rfl
  obtain ⟨kd, cn, rfl, rfl, hkd, hc1, hc5⟩ := isCodec_nat k c wd (by rw [HC1.out, HW1.out]; rfl)
  unfold encB at HRR
  simp only [Int.toNat_natCast] at HRR HCO
  rcases hkd with rfl | rfl
  · have HEN := hid (fun (w2 : World) (h : Below w.heap.size w w2) => encodeI_any cn wd ⟨hc1, hc5⟩ HW1.out (.slice A1 cs.length c1) cs w2 (HU.out.mono h) hl9 (vals_I cs hall) HS.out)
    have hen : enB 1 cn wd cs = R := HRR.out
    have hec : enCode cn wd (valsOf cs) = code := HCO.out
    rw [hen, hec] at HEN
    clear HYS HCO HRR hall hen hec
    go_enter Tryz.func44, Tryz.ntmps44
    go_wp2_with (first
      | (go_at_call 73; refine HAC.out.mono ?_; rintro e w1 ⟨rfl, h1⟩; have H1 := hid h1; clear h1)
      | (go_at_call 74; refine (HIC.out _).mono ?_; rintro e w2 ⟨rfl, hw⟩; replace hw := hw.symm; subst hw)
      | (go_at_call 75; refine (HIW.out _).mono ?_; rintro e w2 ⟨rfl, hw⟩; replace hw := hw.symm; subst hw)
      | (go_at_call 77; refine (HEN.out _ H1.out).mono ?_; rintro e w3 ⟨r, rfl, ⟨⟨A5, n5, c5, rfl⟩, hz⟩, h1, h2⟩; have LZ := hid hz; have L1 := hid h1; have L2 := hid h2; clear h1 h2 hz))
    go_ret2
    exact ⟨_, rfl, ⟨⟨_, _, _, rfl⟩, LZ.out⟩, fun h => owns_low (L1.out h) H1.out.size, H1.out.trans (L2.out.mono H1.out.size)⟩
  · have hc3 : cn ≤ 3 := by
      have h := HC1.out
      unfold isCodec at h
      split at h
      · omega
      · simp only [decide_eq_true_eq] at h; omega
    have HEN := hid (fun (w2 : World) (h : Below w.heap.size w w2) => encodeS_any cn wd ⟨hc1, hc3⟩ HW1.out (.slice A1 cs.length c1) cs w2 (HU.out.mono h) hl9 (vals_S cs hall) HS.out)
    have hen : enB 2 cn wd cs = R := HRR.out
    have hec : enCode cn wd (valsOf cs) = code := HCO.out
    rw [hen, hec] at HEN
    clear HYS HCO HRR hall hen hec
    go_enter Tryz.func44, Tryz.ntmps44
    go_wp2_with (first
      | (go_at_call 73; refine HAC.out.mono ?_; rintro e w1 ⟨rfl, h1⟩; have H1 := hid h1; clear h1)
      | (go_at_call 74; refine (HIC.out _).mono ?_; rintro e w2 ⟨rfl, hw⟩; replace hw := hw.symm; subst hw)
      | (go_at_call 75; refine (HIW.out _).mono ?_; rintro e w2 ⟨rfl, hw⟩; replace hw := hw.symm; subst hw)
      | (go_at_call 76; refine (HEN.out _ H1.out).mono ?_; rintro e w3 ⟨r, rfl, ⟨⟨A5, n5, c5, rfl⟩, hz⟩, h1, h2⟩; have LZ := hid hz; have L1 := hid h1; have L2 := hid h2; clear h1 h2 hz))
    go_ret2
    exact ⟨_, rfl, ⟨⟨_, _, _, rfl⟩, LZ.out⟩, fun h => owns_low (L1.out h) H1.out.size, H1.out.trans (L2.out.mono H1.out.size)⟩
end Go.Proofs.YthonbfojpbfmgaaGreatDoor
