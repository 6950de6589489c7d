/- Package codec: the payload by a dictionary, of integers. -/
import Derived.Test.YtdlkdiaobbakiaaGreatDoorLawencodeuptoB21
import Derived.Test.YtdlkdiaobbakiaaGreatDoorLawencodeuptoB22
import Derived.Test.YtdlkdiaobbakiaaGreatDoorLawencodeuptoB19
import Derived.Test.YtdlkdiaobbakiaaGreatDoorLawencodeuptoB4
import Derived.Laws.Cover1
set_option linter.unusedVariables false
set_option linter.unusedSimpArgs false
set_option linter.unnecessarySimpa false
set_option maxRecDepth 100000
namespace Go.Proofs.YtdlkdiaobbakiaaGreatDoor
open Go.RowKit

def codesI (D xs : List Int) : List Nat := xs.map (firstGe D)
theorem up_I {D : List Int} (h : D.Pairwise (· < ·)) : ∀ a b, a < b → b < D.length → D.getD a 0 < D.getD b 0 := by
  intro a b h1 h2
  have := List.pairwise_iff_getElem.1 h a b (by omega) h2 h1
  simpa [List.getD, List.getElem?_eq_getElem h2, List.getElem?_eq_getElem (show a < D.length by omega)] using this
theorem place_I {D : List Int} (h : D.Pairwise (· < ·)) {x : Int} (hx : x ∈ D) : placeP (D.map pI) (pI x) = firstGe D x := by
  obtain ⟨t, ht, hxt⟩ := List.getElem_of_mem hx
  have hg : D.getD t 0 = x := by simp [List.getD, List.getElem?_eq_getElem ht, hxt]
  have hup := up_I h
  rw [placeP_found (D.map pI) (pI x) t (by simpa using ht) (fun u hu => by
    rw [pI_get D u (by omega), eqP_pI]
    have := hup u t hu ht
    exact decide_eq_false (by omega)) (by rw [pI_get D t ht, eqP_pI, hg]; simp)]
  exact (firstGe_eq D x t (by omega) (fun a ha => by have := hup a t ha ht; omega) (fun _ => by omega)).symm
theorem codes_I (xs : List Int) (h : (dictI xs).length ≤ 256) : lanesD (xs.map pI) = codesI (dictI xs) xs := by
  unfold lanesD codesI
  rw [dictI_diff xs h, List.map_map]
  apply List.map_congr_left
  intro x hx
  exact place_I (dictI_spec xs).1 (((dictI_spec xs).2 x).2 hx)
theorem listB_I (D : List Int) : listB 1 (D.map pI) = le8I D := by
  unfold listB headB
  have h1 : (D.map pI).map Prod.fst = D := by
    rw [List.map_map]; exact (List.map_congr_left (fun x _ => rfl)).trans (List.map_id D)
  have h2 : textB ((D.map pI).map Prod.snd) = [] := by
    unfold textB
    rw [List.flatMap_eq_nil_iff]
    intro s hs
    simp only [List.map_map, List.mem_map, Function.comp] at hs
    obtain ⟨i, _, rfl⟩ := hs
    rfl
  rw [if_pos rfl, h1, h2, List.append_nil]
theorem dictB_I (xs : List Int) (h : (dictI xs).length ≤ 256) :
    dictB 1 (xs.map pI) = (leN 4 (dictI xs).length ++ le8I (dictI xs)) ++ le8 (packR (needN (dictI xs).length : Nat) (codesI (dictI xs) xs)) := by
  unfold dictB
  rw [codes_I xs h, dictI_diff xs h, listB_I, List.length_map]
/-- what a payload's call hands back -/
def PayAns (w w' : World) (e : Ending) (wo : Int) (ok : Bool) (bs : List Nat) : Prop := ∃ (r : Value) (wr : Int), e = .returned (.tuple #[r, .int .i64 wr, .bool ok]) ∧ (∃ A n c, r = .slice A n c) ∧ (ok = true → wr = wo ∧ OwnB w.heap.size w' r bs) ∧ Below w.heap.size w w'
theorem owns_drew {w : World} {B : Nat} {e : TypeId} {v : Value} {n : Nat} {cs : List Value} (h : w.ownsRow B e 1 v n cs) (k : Nat) : (w.drewN k).ownsRow B e 1 v n cs := h
set_option maxHeartbeats 16000000 in
theorem dictPayloadI_any (xs : List Int) (u : Value) (w : World) (hu : Rd w u xs.length 1 (i64s xs)) (hl : xs.length ≤ 1048576) :
    Calls Tryz.prog 86 #[.iface 46 (.agg #[]), u] w fun e w' =>
      PayAns w w' e (needN (diffP (xs.map pI)).length : Nat) (decide ((diffP (xs.map pI)).length ≤ 256)) (dictB 1 (xs.map pI)) := by
  have HU := hid hu
  have HCL := hid (CloneI_any xs u w hu hl)
  obtain ⟨A1, c1, rfl, _, _, _⟩ := hu.form
  have hlm : (xs.mergeSort fun x y => decide (x ≤ y)).length = xs.length := List.length_mergeSort xs
  have HSO := hid (fun (w1 : World) (v : Value) (h : w1.ownsRow w.heap.size 2 1 v xs.length (i64s xs)) (h2 : Below w.heap.size w w1) => SortI_any w.heap.size xs v w1 h h2.size hl)
  have HCO := hid (fun (w1 : World) (v : Value) (h : w1.ownsRow w.heap.size 2 1 v (xs.mergeSort fun x y => decide (x ≤ y)).length (i64s (xs.mergeSort fun x y => decide (x ≤ y)))) (h2 : Below w.heap.size w w1) => CompactI_any w.heap.size _ v w1 h h2.size (by omega))
  have HUP := hid (up_I (dictI_spec xs).1)
  have HBG := hid (dictI_big xs)
  have HDB := hid (dictB_I xs)
  have HDF := hid (fun h => congrArg List.length (dictI_diff xs h))
  have HDL := hid (dictI_le xs)
  change Hid (∀ (w1 : World) (v : Value), w1.ownsRow w.heap.size 2 1 v (xs.mergeSort fun x y => decide (x ≤ y)).length (i64s (xs.mergeSort fun x y => decide (x ≤ y))) → Below w.heap.size w w1 → Calls Tryz.prog 126 #[v] w1 fun e w' => ∃ v', e = .returned v' ∧ w'.ownsRow w.heap.size 2 1 v' (dictI xs).length (i64s (dictI xs)) ∧ Below w.heap.size w1 w') at HCO
  rw [hlm] at HCO
  have HSO2 : Hid (∀ (w1 : World) (v : Value) (h : w1.ownsRow w.heap.size 2 1 v xs.length (i64s xs)) (h2 : Below w.heap.size w w1), Calls Tryz.prog 125 #[v] w1 fun e w' => e = .returned (.tuple #[]) ∧ w'.ownsRow w.heap.size 2 1 v xs.length (i64s (xs.mergeSort fun x y => decide (x ≤ y))) ∧ Below w.heap.size w1 w') := hid (by
    intro w1 v h h2; have h3 := HSO.out w1 v h h2; rw [hlm] at h3; exact h3)
  clear HSO hlm hu
  generalize xs.mergeSort (fun x y => decide (x ≤ y)) = ms at *
  obtain ⟨n, hn⟩ : ∃ n, xs.length = n := ⟨_, rfl⟩
  have HN := hid hn
  simp only [hn] at HU HCL HSO2 HCO HDL hl
  simp only [hn]
  generalize dictI xs = D at *
  obtain ⟨d, hd⟩ : ∃ d, D.length = d := ⟨_, rfl⟩
  have HD := hid hd
  simp only [hd] at HCO HBG HDB HDF HDL
  have hd9 : d ≤ n := HDL.out
  clear hd hn
  generalize xs.map pI = vs at *
  obtain ⟨R0, hR0⟩ : ∃ R0, dictB 1 vs = R0 := ⟨_, rfl⟩
  obtain ⟨nw, hnw⟩ : ∃ nw, needN (diffP vs).length = nw := ⟨_, rfl⟩
  obtain ⟨ok, hok⟩ : ∃ ok, decide ((diffP vs).length ≤ 256) = ok := ⟨_, rfl⟩
  rw [hR0, hnw, hok]
  have HRR := hid hR0
  have HNW := hid hnw
  have HOK := hid hok
  clear hR0 hnw hok
  go_enter Tryz.func86, Tryz.ntmps86
  by_cases hbig : 256 < d
  · have hbg : (d : Int) > 256 := by omega
    have hno : ok = false := HOK.out.symm.trans (decide_eq_false (by have := HBG.out hbig; omega))
    subst hno
    go_wp2_with (first
      | (go_at_call 124; refine HCL.out.mono ?_; rintro e w1 ⟨v1, rfl, h1, h2⟩; obtain ⟨A2, c2, rfl, _⟩ := owns_form h1; have H1 := hid h1; have H2 := hid h2; clear h1 h2)
      | (go_at_call 125; refine (HSO2.out w1 _ H1.out H2.out).mono ?_; rintro e w2 ⟨rfl, h1, h2⟩; have K1 := hid h1; have K2 := hid (H2.out.trans h2); clear h1 h2)
      | (go_at_call 126; refine (HCO.out w2 _ K1.out K2.out).mono ?_; rintro e w3 ⟨v3, rfl, h1, h2⟩; obtain ⟨A3, c3, rfl, _⟩ := owns_form h1; have L1 := hid h1; have L2 := hid (K2.out.trans h2); clear h1 h2))
    go_ret3
    exact ⟨_, _, rfl, ⟨_, _, _, rfl⟩, fun h => (by cases h), L2.out⟩
  · have hbg : ¬ (d : Int) > 256 := by omega
    have HDB2 := hid (HDB.out (by omega))
    have HDF2 := hid (HDF.out (by omega))
    have HDE : Hid ((diffP vs).length = d) := hid (by rw [HDF2.out, List.length_map]; exact HD.out)
    have hyes : ok = true := HOK.out.symm.trans (decide_eq_true (by rw [HDE.out]; omega))
    subst hyes
    rw [HDE.out] at HNW
    rw [HDB2.out] at HRR
    clear HBG HDB HDF HDB2 HDF2 HDE HOK
    go_upto_region 6 with (first
      | (go_at_call 124; refine HCL.out.mono ?_; rintro e w1 ⟨v1, rfl, h1, h2⟩; obtain ⟨A2, c2, rfl, _⟩ := owns_form h1; have H1 := hid h1; have H2 := hid h2; clear h1 h2)
      | (go_at_call 125; refine (HSO2.out w1 _ H1.out H2.out).mono ?_; rintro e w2 ⟨rfl, h1, h2⟩; have K1 := hid h1; have K2 := hid (H2.out.trans h2); clear h1 h2)
      | (go_at_call 126; refine (HCO.out w2 _ K1.out K2.out).mono ?_; rintro e w3 ⟨v3, rfl, h1, h2⟩; obtain ⟨A3, c3, rfl, _⟩ := owns_form h1; have L1 := hid h1; have L2 := hid (K2.out.trans h2); clear h1 h2))
    have HDR := hid (owns_rd L1.out)
    have HU3 := hid (HU.out.mono L2.out)
    clear HCL HSO2 HCO H1 H2 K1 K2 L1 HU
    go_wp2
    refine upon_make 68 (.int .u64 0) 8 Tryz.underlying47 Tryz.info45 rfl n (by omega) (by omega) (by omega) (by unfold maxLen; omega) ?_
    intro w4 hrow4 hb4 hsz4
    obtain ⟨q, hq⟩ : ∃ q, w3.heap.size = q := ⟨_, rfl⟩
    have HQ := hid hq
    have HB0 := hid L2.out.size
    rw [hq] at hrow4 hb4 hsz4 ⊢
    have HROW4 := hid hrow4
    have HB4 := hid hb4
    clear hrow4 hb4 hq
    have HLC : Hid ((codesI D xs).length = n) := hid (by unfold codesI; rw [List.length_map]; exact HN.out)
    have HTK := hid (fun (j : Nat) (h : j < xs.length) => (show (codesI D xs).take (j + 1) = (codesI D xs).take j ++ [firstGe D (xs.getD j 0)] from take_mapd_snoc (firstGe D) xs 0 j h))
    have HCV : Hid (∀ x ∈ codesI D xs, x < 18446744073709551616) := hid (by
      intro x hx
      obtain ⟨y, _, rfl⟩ := List.mem_map.1 hx
      have := firstGe_le D y
      rw [HD.out] at this; omega)
    generalize codesI D xs = ls at *
    go_wp2
    go_loopw [31] (fun i wr => ∃ j : Nat, j ≤ n ∧ i = .int .i64 j ∧ Hid (Row wr q 68 (u64s (ls.take j) ++ List.replicate (n - j) (.int .u64 0))) ∧ Hid (Below q w3 wr) ∧ Hid (q < wr.heap.size)) (fun i _ => n - (intOf i).toNat)
    case atStart => exact ⟨0, by omega, rfl, hid (by simpa [u64s] using HROW4.out), HB4, hid (by omega)⟩
    case round =>
      obtain ⟨j, hj, rfl, HR, HB, HZ⟩ := hrel
      by_cases hlt : j < n
      · obtain ⟨b, o, rfl, hs⟩ := (HU3.out.mono (by rw [HQ.out]; exact HB.out)).atI (by omega)
        have e1 := hs j (by rw [HN.out]; exact hlt)
        clear hs
        have HT := hid (HTK.out j (by rw [HN.out]; exact hlt))
        generalize xs.getD j 0 = x at *
        have HBS := hid (BinarySearch64_any (.slice A3 d c3) D x wr (by have h9 := HDR.out.mono (by rw [HQ.out]; exact HB.out); rw [HD.out]; exact h9) (by rw [HD.out]; omega) HUP.out)
        have hpl := firstGe_le D x
        rw [HD.out] at hpl
        generalize firstGe D x = p at *
        have hpu : IntKind.u64.wrap (p : Int) = (p : Int) := by rw [IntKind.wrap_u64]; omega
        go_wp2_with (go_at_call 127; refine HBS.out.mono ?_; rintro e w5 ⟨⟨bb, rfl⟩, nn, hw5⟩; have HR5 : Hid (Row w5 q 68 (u64s (ls.take j) ++ List.replicate (n - j) (.int .u64 0))) := (hid (by rw [hw5]; exact HR.out.drewN nn)); have HB5 : Hid (Below q w3 w5) := (hid (by rw [hw5]; exact Go.below_drewN HB.out nn)); have HZ5 : Hid (q < w5.heap.size) := (hid (by rw [hw5]; exact HZ.out)); clear hw5; have hcell : w5.cell? ⟨q, j, none⟩ = some (.int .u64 0) := (by rw [HR5.out.cell]; exact get_fill _ _ _ _ (by simp [u64s, List.length_take, HLC.out]; omega) (by omega)); have hfr := HR5.out.frozen j)
        go_roundw
        case rel =>
          refine ⟨j + 1, by omega, by go_num, hid ?_, hid (below_set HB5.out _ _ _ (Nat.le_refl _)), hid (by simpa [World.setCell] using HZ5.out)⟩
          have hss := HR5.out.set j (.int .u64 (p : Int))
          rw [set_fill _ _ _ _ _ (by simp [u64s, List.length_take, HLC.out]; omega) (by omega)] at hss
          rw [HT.out, u64s_append, ← Nat.sub_sub n j 1]
          exact hss
        case measure => simp [intOf]; omega
      · obtain rfl : j = n := by omega
        have htk : ls.take j = ls := by rw [← HLC.out, List.take_length]
        rw [htk, Nat.sub_self, List.replicate_zero, List.append_nil] at HR
        have HRD := hid (owns_rd (HR.out.owns (B := q) (Nat.le_refl _) (n := j) (by rw [u64s_length, HLC.out]) (by unfold maxLen; omega)))
        have HND := hid (fun (w2 : World) => Need_any d w2 (by omega))
        generalize needN d = nd at *
        have HPK := hid (fun (w2 : World) (h : Below wr.heap.size wr w2) => Pack_any (.slice (some ⟨q, 0, none⟩) j j) ls (nd : Nat) w2 (by rw [HLC.out]; exact HRD.out.mono h) HCV.out (by rw [HLC.out]; unfold maxLen; omega))
        have HWL := hid (packR_lt64 (nd : Nat) ls)
        have HWN := hid (packR_le (nd : Nat) ls (by rw [HLC.out]; exact hl))
        generalize okVals (nd : Nat) ls = okp at *
        generalize packR (nd : Nat) ls = ws at *
        have HBW : Hid (Below w3.heap.size w3 wr) := hid (by rw [HQ.out]; exact HB.out)
        have HDR2 := hid (HDR.out.mono HBW.out)
        have HBWW := hid (L2.out.trans (HBW.out.mono L2.out.size))
        clear HR HB HTK HCV HU3 HUP
        generalize wr = w5 at *
        have HN0 := hid (fun (w2 : World) => AppendU32_any w2.heap.size (.slice none 0 0) [] d w2 (OwnB.nil _ _) (Nat.le_refl _) (by omega) (by simp))
        simp only [List.nil_append] at HN0
        have HHH : Hid ((leN 4 d).length = 4) := hid (leN_length 4 d)
        generalize leN 4 d = hd at *
        have HPL := hid (fun (A5 : Option Addr) (c5 : Nat) (w0 w6 : World) (h0 : Rd w0 (.slice A3 d c3) d 1 (i64s D)) (h1 : OwnB w0.heap.size w6 (.slice A5 hd.length c5) hd) (h2 : Below w0.heap.size w0 w6) => AppendListI_any w0.heap.size (.slice A5 hd.length c5) (.slice A3 d c3) hd D w6 h1 (Stay.low (by rw [HD.out]; exact h0) h2 (Nat.le_refl _)) h2.size (by rw [HHH.out]; omega) (by rw [HD.out]; omega))
        have HBL : Hid ((hd ++ le8I D).length = 4 + 8 * d) := hid (by rw [List.length_append, HHH.out, le8I_len, HD.out])
        generalize hd ++ le8I D = bs at *
        have HPA := hid (fun (A5 : Option Addr) (c5 : Nat) (A6 : Option Addr) (c6 : Nat) (w0 w6 : World) (h0 : Rd w0 (.slice A6 ws.length c6) ws.length 1 (u64s ws)) (h1 : OwnB w0.heap.size w6 (.slice A5 bs.length c5) bs) (h2 : Below w0.heap.size w0 w6) => AppendU64s_any w0.heap.size (.slice A5 bs.length c5) (.slice A6 ws.length c6) bs ws w6 h1 (Stay.low h0 h2 (Nat.le_refl _)) HWL.out h2.size (by rw [HBL.out]; omega) HWN.out)
        generalize bs ++ le8 ws = R at *
        have hma := m_Append_I
        go_wp2_with (first
          | (go_at_call 117; refine (HND.out _).mono ?_; rintro e w6 ⟨rfl, hw⟩; replace hw := hw.symm; subst hw)
          | (go_at_call 118; refine (HPK.out _ (brefl _)).mono ?_; rintro e w6 ⟨r, rfl, h1, h2⟩; obtain ⟨A6, c6, rfl, _⟩ := owns_form h1; have P1 := hid (owns_rd h1); have P2 := hid h2; clear h1 h2)
          | (go_at_call 119; refine (HN0.out w6).mono ?_; rintro e w7 ⟨r, rfl, h1, h2, h3, h4⟩; obtain ⟨A7, c7, rfl⟩ := h1.form; have Q1 := hid h1; have Q2 := hid h2; clear h1 h2 h3 h4)
          | (go_at_call 221; refine (HPL.out _ _ w6 w7 (HDR2.out.mono P2.out) Q1.out Q2.out).mono ?_; rintro e w8 ⟨r, rfl, h1, h2, h3, h4⟩; obtain ⟨A8, c8, rfl⟩ := h1.form; have R1 := hid h1; have R2 := hid (Q2.out.trans h2); clear h1 h2 h3 h4 hma)
          | (go_at_call 56; refine (HPA.out _ _ _ _ w6 w8 P1.out R1.out R2.out).mono ?_; rintro e w9 ⟨r, rfl, h1, h2, h3, h4⟩; obtain ⟨A9, c9, rfl⟩ := h1.form; have S1 := hid h1; have S2 := hid (R2.out.trans h2); clear h1 h2 h3 h4))
        go_ret3
        have G2 := hid (HBWW.out.trans ((P2.out.trans (S2.out.mono P2.out.size)).mono HBWW.out.size))
        have G1 : Hid (OwnB w.heap.size w9 (.slice A9 R.length c9) R0) := hid (by rw [← HRR.out]; exact owns_low S1.out (Nat.le_trans HBWW.out.size P2.out.size))
        have G3 : Hid ((nd : Int) = nw) := hid (by rw [HNW.out])
        exact ⟨_, _, rfl, ⟨_, _, _, rfl⟩, fun _ => ⟨G3.out, G1.out⟩, G2.out⟩
end Go.Proofs.YtdlkdiaobbakiaaGreatDoor

/- Package codec: runs of strings put into bytes. -/
set_option linter.unusedVariables false
set_option linter.unusedSimpArgs false
set_option linter.unnecessarySimpa false
set_option maxRecDepth 100000
namespace Go.Proofs.YtdlkdiaobbakiaaGreatDoor
open Go.RowKit

theorem m_Append_S : ∀ w : World, (method 329 44 (.agg #[]) "AppendList").run Tryz.prog w = .ok (215, .agg #[]) w := fun _ => by kernel_rfl
theorem eqP_pS (x y : ByteArray) : eqP (pS x) (pS y) = (y.toList == x.toList) := by
  have h0 : ordP (pS x) (pS y) = ordS x y := by
    unfold ordP pS
    simp only [Int.lt_irrefl, if_false]
  unfold eqP
  rw [h0]
  unfold ordS ltS eqS
  by_cases h : x.toList = y.toList
  · rw [h, bytesLess_self]; simp
  · have h1 : (x.toList == y.toList) = false := beq_eq_false_iff_ne.2 h
    have h2 : (y.toList == x.toList) = false := beq_eq_false_iff_ne.2 (fun e => h e.symm)
    rw [h1, h2]
    cases Op.bytesLess x.toList y.toList <;> simp
theorem pS_get (xs : List ByteArray) (t : Nat) (h : t < xs.length) : (xs.map pS).getD t dfP = pS (xs.getD t default) := by
  simp [List.getD, List.getElem?_eq_getElem h]
theorem endAt_S (xs : List ByteArray) (t : Nat) (h : t + 1 < xs.length) : endAt (xs.map pS) t = !((xs.getD (t + 1) default).toList == (xs.getD t default).toList) := by
  unfold endAt
  rw [pS_get xs t (by omega), pS_get xs (t + 1) h, eqP_pS, List.length_map, decide_eq_false (by omega), Bool.false_or]
theorem sumT_pS (xs : List ByteArray) : sumT (xs.map pS) = sumS xs := by
  unfold sumT
  rw [List.map_map]
  congr 1
  exact (List.map_congr_left (fun x _ => rfl)).trans (List.map_id xs)
set_option maxHeartbeats 8000000 in
theorem runsPayloadS_any (xs : List ByteArray) (u : Value) (w : World) (hu : Rd w u xs.length 1 (strs xs)) (hl : xs.length ≤ 1048576) (hs : sumS xs ≤ 67108864) :
    Calls Tryz.prog 81 #[.iface 44 (.agg #[]), u] w fun e w' => ∃ r, e = .returned r ∧ OwnB w.heap.size w' r (runsB 2 (xs.map pS)) ∧ Below w.heap.size w w' := by
  have HU := hid hu
  obtain ⟨A1, c1, rfl, _, _, _⟩ := hu.form
  have HRR : Hid (runsB 2 (xs.map pS) = leN 4 (runEndsL (xs.map pS) xs.length).length ++ le4 ((runEndsL (xs.map pS) xs.length).map Int.ofNat) ++ strsB ((runHeads (xs.map pS) xs.length).map Prod.snd)) := hid (by
    unfold runsB listB headB strsB
    rw [List.length_map, if_neg (by decide)]
    congr 2
    simp [le4, le4N, List.flatMap_map])
  have HHS : Hid (sumS ((runHeads (xs.map pS) xs.length).map Prod.snd) ≤ 67108864) := hid (by
    have h1 := runHeads_sum (xs.map pS)
    rw [sumT_pS, List.length_map] at h1
    exact Nat.le_trans h1 hs)
  generalize runsB 2 (xs.map pS) = R at *
  obtain ⟨n, hn⟩ : ∃ n, xs.length = n := ⟨_, rfl⟩
  have HN := hid hn
  simp only [hn] at HU HRR HHS hl
  clear hu hs
  simp only [hn]
  have HVN : Hid ((xs.map pS).length = n) := hid (by rw [List.length_map]; exact hn)
  clear hn
  go_enter Tryz.func81, Tryz.ntmps81
  go_wp2_with fail
  go_loopw [5, 6, 12] (fun ev fv i wr => ∃ t : Nat, t ≤ n ∧ i = .int .i64 t ∧ Hid (wr.ownsRow w.heap.size 3 1 ev (runEndsL (xs.map pS) t).length (i64s ((runEndsL (xs.map pS) t).map Int.ofNat))) ∧ Hid (wr.ownsRow w.heap.size 9 1 fv (runEndsL (xs.map pS) t).length (strs ((runHeads (xs.map pS) t).map Prod.snd))) ∧ Hid (Apart ev fv) ∧ Hid (Below w.heap.size w wr)) (fun _ _ i _ => n - (intOf i).toNat)
  case atStart => exact ⟨0, by omega, rfl, hid (World.ownsRow_nil _ _ _ _), hid (World.ownsRow_nil _ _ _ _), hid (fun k h => by cases h), hid (brefl w)⟩
  case round =>
    obtain ⟨t, ht, rfl, HE, HF, HAP, HB⟩ := hrel
    by_cases hlt : t < n
    · obtain ⟨b, o, rfl, hcells⟩ := (HU.out.mono HB.out).atS (by omega)
      have l0 := hcells t (by rw [HN.out]; exact hlt)
      have HC := hid hcells
      clear hcells
      have HSE := hid (runEndsL_succ (xs.map pS) t)
      have HSF := hid (runHeads_succ (xs.map pS) t)
      rw [pS_get xs t (by rw [HN.out]; exact hlt)] at HSF
      have HML := hid (runEndsL_len (xs.map pS) t)
      have HEA := hid (fun (h : t + 1 < n) => endAt_S xs t (by rw [HN.out]; exact h))
      have HEL := hid (fun (h : t + 1 = n) => endAt_last (xs.map pS) t (by rw [HVN.out]; exact h))
      generalize xs.getD t default = x at *
      generalize runEndsL (xs.map pS) t = es at *
      generalize runHeads (xs.map pS) t = hs at *
      obtain ⟨m, hm⟩ : ∃ m, es.length = m := ⟨_, rfl⟩
      have HM := hid hm
      simp only [hm] at HE HF HML
      have hm9 : m ≤ 1048576 := by have := HML.out; omega
      clear hm
      obtain ⟨E1, ce1, rfl, _⟩ := owns_form HE.out
      obtain ⟨F1, cf1, rfl, _⟩ := owns_form HF.out
      have HSZ := hid HB.out.size
      have hlast : t + 1 = n ∨ t + 1 < n := by omega
      by_cases hend : endAt (xs.map pS) t = true
      · have HEN := hid hend
        have hg : ((t : Int) + 1 == (n : Int)) = true ∨ (t + 1 < n ∧ ∃ y, xs.getD (t + 1) default = y ∧ (y.toList == x.toList) = false) := by
          rcases hlast with h | h
          · exact .inl (by simp; omega)
          · refine .inr ⟨h, _, rfl, ?_⟩
            have h2 := HEA.out h
            rw [hend] at h2
            simpa using h2.symm
        clear hend
        rcases hg with i0 | ⟨h1, y, hy, hyx⟩
        · go_upto_region 8 with (at_builtin; refine wpList_append1W rfl (.tmp 31) (.tmp 34) rfl 3 (.int .i64 0) 8 Tryz.underlying23 Tryz.infoI64 rfl rfl rfl HE.out HSZ.out (by rfl) (by unfold maxLen; omega) (by omega) ?_; intro v5 w5 ho5 hb5 hz5 hk5 hw5)
          have HO5 := hid ho5
          have HB5 := hid hb5
          have HZ5 := hid hz5
          have HK5 := hid (show Kp _ wr w5 v5 from ⟨hk5, fun k hk => by
            rcases hw5 with h | h
            · exact .inl (by rw [← h]; exact hk.symm)
            · exact .inr (h.1 k hk)⟩)
          clear ho5 hb5 hz5 hk5 hw5
          have HF5 := hid (owns_kp HF.out HK5.out HAP.out)
          have HAP5 := hid (HAP.out.left HK5.out (fun k hk => (HF.out.lt k hk).2))
          have HS5 := hid (Nat.le_trans HSZ.out HZ5.out)
          obtain ⟨E2, ce2, rfl, _⟩ := owns_form HO5.out
          go_wp2_with (at_builtin; refine wpList_append1W rfl (.tmp 36) (.tmp 38) rfl 9 (.string ByteArray.empty) 16 Tryz.underlying72 Tryz.infoStr rfl rfl rfl HF5.out HS5.out (by rfl) (by unfold maxLen; omega) (by omega) ?_; intro v6 w6 ho6 hb6 hz6 hk6 hw6)
          have HO6 := hid ho6
          have HB6 := hid hb6
          have HK6 := hid (show Kp _ w5 w6 v6 from ⟨hk6, fun k hk => by
            rcases hw6 with h | h
            · exact .inl (by rw [← h]; exact hk.symm)
            · exact .inr (h.1 k hk)⟩)
          clear ho6 hb6 hz6 hk6 hw6
          have HE6 := hid (owns_kp HO5.out HK6.out HAP5.out.symm)
          have HAP6 := hid (HAP5.out.right HK6.out (fun k hk => (HO5.out.lt k hk).2))
          go_roundw
          case rel =>
            have G1 : Hid ((runEndsL (xs.map pS) (t + 1)).length = m + 1) := hid (by rw [HSE.out, if_pos HEN.out, List.length_append, HM.out]; rfl)
            have G2 : Hid (i64s ((runEndsL (xs.map pS) (t + 1)).map Int.ofNat) = i64s (es.map Int.ofNat) ++ [.int .i64 ((t : Int) + 1)]) := hid (by rw [HSE.out, if_pos HEN.out, List.map_append, i64s_append]; rfl)
            have G3 : Hid (strs ((runHeads (xs.map pS) (t + 1)).map Prod.snd) = strs (hs.map Prod.snd) ++ [.string x]) := hid (by rw [HSF.out, if_pos HEN.out, List.map_append]; simp [strs]; rfl)
            exact ⟨t + 1, by omega, by go_num, hid (by rw [G1.out, G2.out]; exact HE6.out), hid (by rw [G1.out, G3.out]; exact HO6.out), HAP6, hid (HB.out.trans (HB5.out.trans HB6.out))⟩
          case measure => simp [intOf]; omega
        · have l1 := HC.out (t + 1) (by rw [HN.out]; exact h1)
          rw [hy] at l1
          have iw : IntKind.i64.wrap ((t : Int) + 1) = (t : Int) + 1 := by rw [IntKind.wrap_i64]; omega
          have ig1 : (0 : Int) ≤ (t : Int) + 1 := by omega
          have ig2 : (t : Int) + 1 < (n : Int) := by omega
          have i0 : ((t : Int) + 1 == (n : Int)) = false := by simp; omega
          clear hy
          go_upto_region 8 with (at_builtin; refine wpList_append1W rfl (.tmp 31) (.tmp 34) rfl 3 (.int .i64 0) 8 Tryz.underlying23 Tryz.infoI64 rfl rfl rfl HE.out HSZ.out (by rfl) (by unfold maxLen; omega) (by omega) ?_; intro v5 w5 ho5 hb5 hz5 hk5 hw5)
          have HO5 := hid ho5
          have HB5 := hid hb5
          have HZ5 := hid hz5
          have HK5 := hid (show Kp _ wr w5 v5 from ⟨hk5, fun k hk => by
            rcases hw5 with h | h
            · exact .inl (by rw [← h]; exact hk.symm)
            · exact .inr (h.1 k hk)⟩)
          clear ho5 hb5 hz5 hk5 hw5
          have HF5 := hid (owns_kp HF.out HK5.out HAP.out)
          have HAP5 := hid (HAP.out.left HK5.out (fun k hk => (HF.out.lt k hk).2))
          have HS5 := hid (Nat.le_trans HSZ.out HZ5.out)
          obtain ⟨E2, ce2, rfl, _⟩ := owns_form HO5.out
          go_wp2_with (at_builtin; refine wpList_append1W rfl (.tmp 36) (.tmp 38) rfl 9 (.string ByteArray.empty) 16 Tryz.underlying72 Tryz.infoStr rfl rfl rfl HF5.out HS5.out (by rfl) (by unfold maxLen; omega) (by omega) ?_; intro v6 w6 ho6 hb6 hz6 hk6 hw6)
          have HO6 := hid ho6
          have HB6 := hid hb6
          have HK6 := hid (show Kp _ w5 w6 v6 from ⟨hk6, fun k hk => by
            rcases hw6 with h | h
            · exact .inl (by rw [← h]; exact hk.symm)
            · exact .inr (h.1 k hk)⟩)
          clear ho6 hb6 hz6 hk6 hw6
          have HE6 := hid (owns_kp HO5.out HK6.out HAP5.out.symm)
          have HAP6 := hid (HAP5.out.right HK6.out (fun k hk => (HO5.out.lt k hk).2))
          go_roundw
          case rel =>
            have G1 : Hid ((runEndsL (xs.map pS) (t + 1)).length = m + 1) := hid (by rw [HSE.out, if_pos HEN.out, List.length_append, HM.out]; rfl)
            have G2 : Hid (i64s ((runEndsL (xs.map pS) (t + 1)).map Int.ofNat) = i64s (es.map Int.ofNat) ++ [.int .i64 ((t : Int) + 1)]) := hid (by rw [HSE.out, if_pos HEN.out, List.map_append, i64s_append]; rfl)
            have G3 : Hid (strs ((runHeads (xs.map pS) (t + 1)).map Prod.snd) = strs (hs.map Prod.snd) ++ [.string x]) := hid (by rw [HSF.out, if_pos HEN.out, List.map_append]; simp [strs]; rfl)
            exact ⟨t + 1, by omega, by go_num, hid (by rw [G1.out, G2.out]; exact HE6.out), hid (by rw [G1.out, G3.out]; exact HO6.out), HAP6, hid (HB.out.trans (HB5.out.trans HB6.out))⟩
          case measure => simp [intOf]; omega
      · have HEN := hid hend
        have h1 : t + 1 < n := by
          rcases hlast with h | h
          · exact absurd (HEL.out h) hend
          · exact h
        obtain ⟨y, hy, hyx⟩ : ∃ y, xs.getD (t + 1) default = y ∧ (y.toList == x.toList) = true := by
          refine ⟨_, rfl, ?_⟩
          have h2 := HEA.out h1
          rw [Bool.eq_false_iff.2 hend] at h2
          simpa using h2.symm
        clear hend
        have l1 := HC.out (t + 1) (by rw [HN.out]; exact h1)
        rw [hy] at l1
        have iw : IntKind.i64.wrap ((t : Int) + 1) = (t : Int) + 1 := by rw [IntKind.wrap_i64]; omega
        have ig1 : (0 : Int) ≤ (t : Int) + 1 := by omega
        have ig2 : (t : Int) + 1 < (n : Int) := by omega
        have i0 : ((t : Int) + 1 == (n : Int)) = false := by simp; omega
        clear hy
        go_wp2_with fail
        go_roundw
        case rel => exact ⟨t + 1, by omega, by go_num, hid (by rw [HSE.out, if_neg HEN.out, HM.out]; exact HE.out), hid (by rw [HSE.out, HSF.out, if_neg HEN.out, if_neg HEN.out, HM.out]; exact HF.out), HAP, HB⟩
        case measure => simp [intOf]; omega
    · obtain rfl : t = n := by omega
      have HML := hid (runEndsL_len (xs.map pS) t)
      have HMX := hid (runEndsL_lt (xs.map pS) t)
      have HHL := hid (runHeads_len (xs.map pS) t)
      generalize runEndsL (xs.map pS) t = es at *
      generalize runHeads (xs.map pS) t = hs at *
      obtain ⟨m, hm⟩ : ∃ m, es.length = m := ⟨_, rfl⟩
      have HM := hid hm
      simp only [hm] at HE HF HML HHL HRR
      have hm9 : m ≤ 1048576 := by have := HML.out; omega
      clear hm
      obtain ⟨E1, ce1, rfl, _⟩ := owns_form HE.out
      obtain ⟨F1, cf1, rfl, _⟩ := owns_form HF.out
      have HE' := hid (owns_rd HE.out)
      have HF' := hid (owns_rd HF.out)
      have HN0 := hid (AppendU32_any wr.heap.size (.slice none 0 0) [] m wr (OwnB.nil _ _) (Nat.le_refl _) (by omega) (by simp))
      rw [List.nil_append] at HN0
      have HHH : Hid ((leN 4 m).length = 4) := hid (leN_length 4 m)
      have HLE : Hid ((es.map Int.ofNat).length = m) := hid (by rw [List.length_map]; exact HM.out)
      have HLF : Hid ((hs.map Prod.snd).length = m) := hid (by rw [List.length_map]; exact HHL.out)
      have HXV : Hid (∀ x ∈ es.map Int.ofNat, 0 ≤ x ∧ x < 4294967296) := hid (by
        intro x hx
        obtain ⟨y, hy, rfl⟩ := List.mem_map.1 hx
        have := HMX.out y hy
        exact ⟨Int.natCast_nonneg _, by have h : Int.ofNat y = (y : Int) := rfl; omega⟩)
      clear HE HF HAP HU HMX HHL HM
      generalize es.map Int.ofNat = eI at *
      generalize hs.map Prod.snd = hI at *
      generalize leN 4 m = hd at *
      have HPE := hid (fun (A3 : Option Addr) (c3 : Nat) (w3 : World) (h1 : OwnB wr.heap.size w3 (.slice A3 hd.length c3) hd) (h2 : Below wr.heap.size wr w3) => AppendU32s_any wr.heap.size (.slice A3 hd.length c3) (.slice E1 m ce1) hd eI w3 h1 (Stay.low (by rw [HLE.out]; exact HE'.out) h2 (Nat.le_refl _)) HXV.out h2.size (by rw [HHH.out]; omega) (by rw [HLE.out]; omega))
      have HBL : Hid ((hd ++ le4 eI).length = 4 + 4 * m) := hid (by rw [List.length_append, HHH.out, le4_len, HLE.out])
      generalize hd ++ le4 eI = bs at *
      have HPL := hid (fun (A3 : Option Addr) (c3 : Nat) (w3 : World) (h1 : OwnB wr.heap.size w3 (.slice A3 bs.length c3) bs) (h2 : Below wr.heap.size wr w3) => AppendListS_any wr.heap.size (.slice A3 bs.length c3) (.slice F1 m cf1) bs hI w3 h1 (Stay.low (by rw [HLF.out]; exact HF'.out) h2 (Nat.le_refl _)) h2.size (by have := HBL.out; omega) (by rw [HLF.out]; omega) HHS.out)
      rw [← HRR.out] at HPL
      generalize wr = w2 at *
      have hma := m_Append_S
      go_wp2_with (first
        | (go_at_call 119; refine HN0.out.mono ?_; rintro e w3 ⟨r, rfl, h1, h2, h3, h4⟩; obtain ⟨A3, c3, rfl⟩ := h1.form; have H1 := hid h1; have H2 := hid h2; clear h1 h2 h3 h4)
        | (go_at_call 120; refine (HPE.out _ _ _ H1.out H2.out).mono ?_; rintro e w4 ⟨r, rfl, h1, h2, h3, h4⟩; obtain ⟨A4, c4, rfl⟩ := h1.form; have K1 := hid h1; have K2 := hid (H2.out.trans h2); clear h1 h2 h3 h4)
        | (go_at_call 215; refine (HPL.out _ _ _ K1.out K2.out).mono ?_; rintro e w5 ⟨r, rfl, h1, h2, h3, h4⟩; obtain ⟨A5, c5, rfl⟩ := h1.form; have M1 := hid h1; have M2 := hid (K2.out.trans h2); clear h1 h2 h3 h4))
      go_ret
      exact ⟨_, rfl, owns_low M1.out HB.out.size, HB.out.trans (M2.out.mono HB.out.size)⟩
end Go.Proofs.YtdlkdiaobbakiaaGreatDoor

/- slices.BinarySearch over strings. -/
set_option linter.unusedVariables false
set_option linter.unusedSimpArgs false
set_option linter.unnecessarySimpa false
set_option maxRecDepth 20000
namespace Go.Proofs.YtdlkdiaobbakiaaGreatDoor
open Go.RowKit

theorem eqS_self (x : ByteArray) : (x.toList == x.toList) = true := by simp
theorem isNaNcS_any (x : ByteArray) (w : World) : Calls Tryz.prog 168 #[.string x] w fun e w' => e = .returned (.bool false) ∧ w' = w := by
  have e1 := eqS_self x
  go_enter Tryz.func168, Tryz.ntmps168
  go_wp2
  go_ret
  exact ⟨rfl, rfl⟩
theorem isNaNsS_any (x : ByteArray) (w : World) : Calls Tryz.prog 147 #[.string x] w fun e w' => e = .returned (.bool false) ∧ w' = w := by
  have e1 := eqS_self x
  go_enter Tryz.func147, Tryz.ntmps147
  go_wp2
  go_ret
  exact ⟨rfl, rfl⟩
theorem LessS_any (x y : ByteArray) (w : World) : Calls Tryz.prog 146 #[.string x, .string y] w fun e w' => e = .returned (.bool (ltS x y)) ∧ w' = w := by
  obtain ⟨b, hb⟩ : ∃ b, ltS x y = b := ⟨_, rfl⟩
  rw [hb]
  have hb2 : Op.bytesLess x.toList y.toList = b := hb
  clear hb
  go_enter Tryz.func146, Tryz.ntmps146
  cases b
  all_goals go_wp2_with (go_at_call 168; refine (isNaNcS_any _ _).mono ?_; rintro e w' ⟨rfl, rfl⟩)
  all_goals go_ret
  all_goals exact ⟨rfl, rfl⟩

/-- the first place whose entry is not below t -/
def firstGeS (es : List ByteArray) (t : ByteArray) : Nat := es.findIdx fun e => !ltS e t
theorem firstGeS_eq (es : List ByteArray) (t : ByteArray) (i : Nat) (hi : i ≤ es.length) (h1 : ∀ a, a < i → ltS (es.getD a ByteArray.empty) t = true) (h2 : i < es.length → ltS (es.getD i ByteArray.empty) t = false) : firstGeS es t = i := by
  unfold firstGeS
  by_cases hlt : i < es.length
  · rw [List.findIdx_eq hlt]
    refine ⟨?_, fun j hj => ?_⟩
    · have := h2 hlt
      simpa [List.getD, List.getElem?_eq_getElem hlt] using this
    · have := h1 j hj
      have hjl : j < es.length := by omega
      simp only [List.getD, List.getElem?_eq_getElem hjl, Option.getD_some] at this
      simpa using this
  · have : i = es.length := by omega
    rw [this, List.findIdx_eq_length]
    intro x hx
    obtain ⟨j, hj, rfl⟩ := List.getElem_of_mem hx
    have := h1 j (by omega)
    simp only [List.getD, List.getElem?_eq_getElem hj, Option.getD_some] at this
    simpa using this
theorem ltS_trans {a b c : ByteArray} (h1 : ltS a b = true) (h2 : ltS b c = true) : ltS a c = true := bytesLess_trans _ _ _ h1 h2
theorem ltS_up {x y t : ByteArray} (h1 : ltS x y = true) (h2 : ltS x t = false) : ltS y t = false := by
  rw [← Bool.not_eq_true] at h2 ⊢
  exact fun h => h2 (ltS_trans h1 h)
set_option maxHeartbeats 2000000 in
theorem BinarySearchS_any (v : Value) (es : List ByteArray) (t : ByteArray) (w : World) (hx : Rd w v es.length 1 (strs es)) (hl : es.length ≤ 1048576) (hup : ∀ a b, a < b → b < es.length → ltS (es.getD a ByteArray.empty) (es.getD b ByteArray.empty) = true) :
    Calls Tryz.prog 116 #[v, .string t] w fun e w' => (∃ b : Value, e = .returned (.tuple #[.int .i64 (firstGeS es t : Nat), b])) ∧ ∃ n, w' = w.drewN n := by
  obtain ⟨A, ca, rfl, _, _, _⟩ := hx.form
  have HX := hid hx
  have HUP := hid hup
  clear hx hup
  go_enter Tryz.func116, Tryz.ntmps116
  go_wp2
  go_loop [7, 8] (fun u x => ∃ i j : Nat, i ≤ j ∧ j ≤ es.length ∧ u = .int .i64 i ∧ x = .int .i64 j ∧ Hid (∀ a, a < i → ltS (es.getD a ByteArray.empty) t = true) ∧ Hid (∀ a, j ≤ a → a < es.length → ltS (es.getD a ByteArray.empty) t = false)) (fun u x => (intOf x).toNat - (intOf u).toNat)
  case atStart => exact ⟨0, es.length, by omega, by omega, rfl, rfl, hid (fun a h => by omega), hid (fun a h1 h2 => by omega)⟩
  case round =>
    obtain ⟨i, j, hij, hj, rfl, rfl, H1, H2⟩ := hrel
    by_cases hlt : i < j
    · obtain ⟨b, o, rfl, hs⟩ := HX.out.atS (by omega)
      obtain ⟨m, hm⟩ : ∃ m, (i + j) / 2 = m := ⟨_, rfl⟩
      have hm' : ((i : Int) + (j : Int)) / 2 = (m : Int) := by omega
      have hml : m < es.length := by omega
      have c1 := hs m hml
      have him : i ≤ m := by omega
      have hmj : m < j := by omega
      have HLT : Hid (ltS (es.getD m ByteArray.empty) t = true → ∀ a, a < m + 1 → ltS (es.getD a ByteArray.empty) t = true) := hid (by
        intro h a ha
        by_cases ham : a = m
        · subst ham; exact h
        · exact ltS_trans (HUP.out a m (by omega) hml) h)
      have HGE : Hid (ltS (es.getD m ByteArray.empty) t = false → ∀ a, m ≤ a → a < es.length → ltS (es.getD a ByteArray.empty) t = false) := hid (by
        intro h a ha1 ha2
        by_cases ham : a = m
        · subst ham; exact h
        · exact ltS_up (HUP.out m a (by omega) ha2) h)
      clear hs hm
      generalize es.getD m ByteArray.empty = x at *
      have HLS := hid (fun (w2 : World) => LessS_any x t w2)
      obtain ⟨bl, hbl⟩ : ∃ bl, ltS x t = bl := ⟨_, rfl⟩
      rw [hbl] at HLT HGE HLS
      clear hbl
      cases bl
      · have HG := hid (HGE.out rfl)
        clear HLT HGE
        go_wp2_with (go_at_call 146; refine (HLS.out _).mono ?_; rintro e w' ⟨rfl, hw⟩; subst hw)
        go_round
        case rel => exact ⟨i, m, by omega, by omega, rfl, rfl, H1, HG⟩
        case measure => simp [intOf]; omega
      · have HG := hid (HLT.out rfl)
        clear HLT HGE
        go_wp2_with (go_at_call 146; refine (HLS.out _).mono ?_; rintro e w' ⟨rfl, hw⟩; subst hw)
        go_round
        case rel => exact ⟨m + 1, j, by omega, by omega, by go_num, rfl, HG, H2⟩
        case measure => simp [intOf]; omega
    · have hf : firstGeS es t = i := firstGeS_eq es t i (by omega) H1.out (fun h => H2.out i (by omega) h)
      have HF := hid hf
      clear hf
      by_cases hie : i < es.length
      · obtain ⟨b, o, rfl, hs⟩ := HX.out.atS (by omega)
        have c1 := hs i hie
        clear hs
        generalize es.getD i ByteArray.empty = x at *
        go_wp2_with (go_at_call 147; refine (isNaNsS_any _ _).mono ?_; rintro e w' ⟨rfl, hw⟩; subst hw)
        all_goals go_ret2
        all_goals exact ⟨⟨_, by rw [HF.out]; rfl⟩, 0, rfl⟩
      · go_wp2
        all_goals go_ret2
        all_goals exact ⟨⟨_, by rw [HF.out]; rfl⟩, 0, rfl⟩
end Go.Proofs.YtdlkdiaobbakiaaGreatDoor

/- Package codec: the payload by a dictionary, of strings. -/
set_option linter.unusedVariables false
set_option linter.unusedSimpArgs false
set_option linter.unnecessarySimpa false
set_option maxRecDepth 100000
namespace Go.Proofs.YtdlkdiaobbakiaaGreatDoor
open Go.RowKit Go.Sort

def codesS (D ss : List ByteArray) : List Nat := ss.map (firstGeS D)
theorem up_S {D : List ByteArray} (h : (D.map pS).Pairwise (fun a b => gtP b a)) : ∀ a b, a < b → b < D.length → ltS (D.getD a ByteArray.empty) (D.getD b ByteArray.empty) = true := by
  intro a b h1 h2
  rw [List.pairwise_map] at h
  have h3 := List.pairwise_iff_getElem.1 h a b (by omega) h2 h1
  simp only [List.getD, List.getElem?_eq_getElem h2, List.getElem?_eq_getElem (show a < D.length by omega), Option.getD_some]
  unfold gtP pS at h3
  rcases h3 with h3 | ⟨_, h3⟩
  · exact absurd h3 (by simp)
  · exact h3
theorem ltS_irrefl (x : ByteArray) : ltS x x = false := bytesLess_self _
theorem place_S {D : List ByteArray} (h : (D.map pS).Pairwise (fun a b => gtP b a)) {x : ByteArray} (hx : x ∈ D) : placeP (D.map pS) (pS x) = firstGeS D x := by
  obtain ⟨t, ht, hxt⟩ := List.getElem_of_mem hx
  have hg : D.getD t ByteArray.empty = x := by simp [List.getD, List.getElem?_eq_getElem ht, hxt]
  have hup := up_S h
  have hgd : ∀ u, u < D.length → (D.map pS).getD u dfP = pS (D.getD u ByteArray.empty) := fun u hu => by simp [List.getD, List.getElem?_eq_getElem hu]
  rw [placeP_found (D.map pS) (pS x) t (by simpa using ht) (fun u hu => by
    rw [hgd u (by omega), eqP_pS]
    have h1 := hup u t hu ht
    rw [hg] at h1
    refine beq_eq_false_iff_ne.2 (fun e => ?_)
    unfold ltS at h1
    rw [e, bytesLess_self] at h1; cases h1) (by rw [hgd t ht, eqP_pS, hg]; simp)]
  exact (firstGeS_eq D x t (by omega) (fun a ha => by have h1 := hup a t ha ht; rw [hg] at h1; exact h1) (fun _ => by rw [hg]; exact ltS_irrefl x)).symm
theorem codes_S (ss : List ByteArray) (h : (dictS ss).length ≤ 256) : lanesD (ss.map pS) = codesS (dictS ss) ss := by
  unfold lanesD codesS
  rw [dictS_diff ss h, List.map_map]
  apply List.map_congr_left
  intro x hx
  refine place_S (dictS_spec ss).1 ?_
  have h1 := ((dictS_spec ss).2 (pS x)).2 (List.mem_map.2 ⟨x, hx, rfl⟩)
  obtain ⟨y, hy, e⟩ := List.mem_map.1 h1
  unfold pS at e
  injection e with e1 e2
  rw [← e2]; exact hy
theorem listB_S (D : List ByteArray) : listB 2 (D.map pS) = strsB D := by
  unfold listB headB strsB
  have h1 : (D.map pS).map Prod.snd = D := by
    rw [List.map_map]; exact (List.map_congr_left (fun x _ => rfl)).trans (List.map_id D)
  rw [if_neg (by decide), h1]
theorem dictB_S (ss : List ByteArray) (h : (dictS ss).length ≤ 256) :
    dictB 2 (ss.map pS) = (leN 4 (dictS ss).length ++ strsB (dictS ss)) ++ le8 (packR (needN (dictS ss).length : Nat) (codesS (dictS ss) ss)) := by
  unfold dictB
  rw [codes_S ss h, dictS_diff ss h, listB_S, List.length_map]
theorem dictS_sum (ss : List ByteArray) (h : (dictS ss).length ≤ 256) : sumS (dictS ss) ≤ sumS ss := by
  have h1 := diffP_sum (ss.map pS)
  rw [dictS_diff ss h, sumT_pS, sumT_pS] at h1
  exact h1
theorem strsB_len (xs : List ByteArray) : (strsB xs).length = 4 * xs.length + sumS xs := by
  unfold strsB; rw [List.length_append, le4N_len, endsL_len, textB_len]
theorem firstGeS_le (es : List ByteArray) (t : ByteArray) : firstGeS es t ≤ es.length := List.findIdx_le_length
set_option maxHeartbeats 16000000 in
theorem dictPayloadS_any (xs : List ByteArray) (u : Value) (w : World) (hu : Rd w u xs.length 1 (strs xs)) (hl : xs.length ≤ 1048576) (hs : sumS xs ≤ 67108864) :
    Calls Tryz.prog 80 #[.iface 44 (.agg #[]), u] w fun e w' =>
      PayAns w w' e (needN (diffP (xs.map pS)).length : Nat) (decide ((diffP (xs.map pS)).length ≤ 256)) (dictB 2 (xs.map pS)) := by
  have HU := hid hu
  have HCL := hid (CloneS_any xs u w hu hl)
  obtain ⟨A1, c1, rfl, _, _, _⟩ := hu.form
  have hlm : ((xs.map (·.data.toList)).mergeSort fun x y => decide (x ≤ y)).length = xs.length := by rw [List.length_mergeSort, List.length_map]
  have HSO := hid (fun (w1 : World) (v : Value) (h : w1.ownsRow w.heap.size 9 1 v xs.length (strs xs)) (h2 : Below w.heap.size w w1) => SortS_any w.heap.size (xs.map (·.data.toList)) v w1 (by rw [List.length_map, strs_enc]; exact h) h2.size (by rw [List.length_map]; exact hl))
  have HCO := hid (fun (w1 : World) (v : Value) (h : w1.ownsRow w.heap.size 9 1 v ((xs.map (·.data.toList)).mergeSort fun x y => decide (x ≤ y)).length (((xs.map (·.data.toList)).mergeSort fun x y => decide (x ≤ y)).map encStr)) (h2 : Below w.heap.size w w1) => CompactS_any w.heap.size _ v w1 h h2.size (by omega))
  have HSM := hid (fun h => Nat.le_trans (dictS_sum xs h) hs)
  have HUP := hid (up_S (dictS_spec xs).1)
  have HBG := hid (dictS_big xs)
  have HDB := hid (dictB_S xs)
  have HDF := hid (fun h => congrArg List.length (dictS_diff xs h))
  have HDL := hid (dictS_le xs)
  have HCO2 : Hid (∀ (w1 : World) (v : Value) (h : w1.ownsRow w.heap.size 9 1 v xs.length (((xs.map (·.data.toList)).mergeSort fun x y => decide (x ≤ y)).map encStr)) (h2 : Below w.heap.size w w1), Calls Tryz.prog 115 #[v] w1 fun e w' => ∃ v', e = .returned v' ∧ w'.ownsRow w.heap.size 9 1 v' (dictS xs).length (strs (dictS xs)) ∧ Below w.heap.size w1 w') := hid (by
    intro w1 v h h2
    have h3 := HCO.out w1 v (by rw [hlm]; exact h) h2
    rw [strs_dict, show (Lib.compact ((xs.map (·.data.toList)).mergeSort fun x y => decide (x ≤ y))).length = (dictS xs).length by unfold dictS; rw [List.length_map]] at h3
    exact h3)
  have HSO2 : Hid (∀ (w1 : World) (v : Value) (h : w1.ownsRow w.heap.size 9 1 v xs.length (strs xs)) (h2 : Below w.heap.size w w1), Calls Tryz.prog 114 #[v] w1 fun e w' => e = .returned (.tuple #[]) ∧ w'.ownsRow w.heap.size 9 1 v xs.length (((xs.map (·.data.toList)).mergeSort fun x y => decide (x ≤ y)).map encStr) ∧ Below w.heap.size w1 w') := hid (by
    intro w1 v h h2; have h3 := HSO.out w1 v h h2; rw [hlm] at h3; exact h3)
  clear HCO
  clear HSO hlm hu hs
  generalize ((xs.map (·.data.toList)).mergeSort fun x y => decide (x ≤ y)).map encStr = ms at *
  obtain ⟨n, hn⟩ : ∃ n, xs.length = n := ⟨_, rfl⟩
  have HN := hid hn
  simp only [hn] at HU HCL HSO2 HCO2 HDL hl
  simp only [hn]
  generalize dictS xs = D at *
  obtain ⟨d, hd⟩ : ∃ d, D.length = d := ⟨_, rfl⟩
  have HD := hid hd
  simp only [hd] at HCO2 HBG HDB HDF HDL HSM
  have hd9 : d ≤ n := HDL.out
  clear hd hn
  generalize xs.map pS = vs at *
  obtain ⟨R0, hR0⟩ : ∃ R0, dictB 2 vs = R0 := ⟨_, rfl⟩
  obtain ⟨nw, hnw⟩ : ∃ nw, needN (diffP vs).length = nw := ⟨_, rfl⟩
  obtain ⟨ok, hok⟩ : ∃ ok, decide ((diffP vs).length ≤ 256) = ok := ⟨_, rfl⟩
  rw [hR0, hnw, hok]
  have HRR := hid hR0
  have HNW := hid hnw
  have HOK := hid hok
  clear hR0 hnw hok
  go_enter Tryz.func80, Tryz.ntmps80
  by_cases hbig : 256 < d
  · have hbg : (d : Int) > 256 := by omega
    have hno : ok = false := HOK.out.symm.trans (decide_eq_false (by have := HBG.out hbig; omega))
    subst hno
    go_wp2_with (first
      | (go_at_call 113; refine HCL.out.mono ?_; rintro e w1 ⟨v1, rfl, h1, h2⟩; obtain ⟨A2, c2, rfl, _⟩ := owns_form h1; have H1 := hid h1; have H2 := hid h2; clear h1 h2)
      | (go_at_call 114; refine (HSO2.out w1 _ H1.out H2.out).mono ?_; rintro e w2 ⟨rfl, h1, h2⟩; have K1 := hid h1; have K2 := hid (H2.out.trans h2); clear h1 h2)
      | (go_at_call 115; refine (HCO2.out w2 _ K1.out K2.out).mono ?_; rintro e w3 ⟨v3, rfl, h1, h2⟩; obtain ⟨A3, c3, rfl, _⟩ := owns_form h1; have L1 := hid h1; have L2 := hid (K2.out.trans h2); clear h1 h2))
    go_ret3
    exact ⟨_, _, rfl, ⟨_, _, _, rfl⟩, fun h => (by cases h), L2.out⟩
  · have hbg : ¬ (d : Int) > 256 := by omega
    have HDB2 := hid (HDB.out (by omega))
    have HDF2 := hid (HDF.out (by omega))
    have HSD := hid (HSM.out (by omega))
    have HDE : Hid ((diffP vs).length = d) := hid (by rw [HDF2.out, List.length_map]; exact HD.out)
    have hyes : ok = true := HOK.out.symm.trans (decide_eq_true (by rw [HDE.out]; omega))
    subst hyes
    rw [HDE.out] at HNW
    rw [HDB2.out] at HRR
    clear HBG HDB HDF HDB2 HDF2 HDE HOK
    go_upto_region 6 with (first
      | (go_at_call 113; refine HCL.out.mono ?_; rintro e w1 ⟨v1, rfl, h1, h2⟩; obtain ⟨A2, c2, rfl, _⟩ := owns_form h1; have H1 := hid h1; have H2 := hid h2; clear h1 h2)
      | (go_at_call 114; refine (HSO2.out w1 _ H1.out H2.out).mono ?_; rintro e w2 ⟨rfl, h1, h2⟩; have K1 := hid h1; have K2 := hid (H2.out.trans h2); clear h1 h2)
      | (go_at_call 115; refine (HCO2.out w2 _ K1.out K2.out).mono ?_; rintro e w3 ⟨v3, rfl, h1, h2⟩; obtain ⟨A3, c3, rfl, _⟩ := owns_form h1; have L1 := hid h1; have L2 := hid (K2.out.trans h2); clear h1 h2))
    have HDR := hid (owns_rd L1.out)
    have HU3 := hid (HU.out.mono L2.out)
    clear HCL HSO2 HCO2 H1 H2 K1 K2 L1 HU
    go_wp2
    refine upon_make 68 (.int .u64 0) 8 Tryz.underlying47 Tryz.info45 rfl n (by omega) (by omega) (by omega) (by unfold maxLen; omega) ?_
    intro w4 hrow4 hb4 hsz4
    obtain ⟨q, hq⟩ : ∃ q, w3.heap.size = q := ⟨_, rfl⟩
    have HQ := hid hq
    have HB0 := hid L2.out.size
    rw [hq] at hrow4 hb4 hsz4 ⊢
    have HROW4 := hid hrow4
    have HB4 := hid hb4
    clear hrow4 hb4 hq
    have HLC : Hid ((codesS D xs).length = n) := hid (by unfold codesS; rw [List.length_map]; exact HN.out)
    have HTK := hid (fun (j : Nat) (h : j < xs.length) => (show (codesS D xs).take (j + 1) = (codesS D xs).take j ++ [firstGeS D (xs.getD j default)] from take_mapd_snoc (firstGeS D) xs default j h))
    have HCV : Hid (∀ x ∈ codesS D xs, x < 18446744073709551616) := hid (by
      intro x hx
      obtain ⟨y, _, rfl⟩ := List.mem_map.1 hx
      have := firstGeS_le D y
      rw [HD.out] at this; omega)
    generalize codesS D xs = ls at *
    go_wp2
    go_loopw [31] (fun i wr => ∃ j : Nat, j ≤ n ∧ i = .int .i64 j ∧ Hid (Row wr q 68 (u64s (ls.take j) ++ List.replicate (n - j) (.int .u64 0))) ∧ Hid (Below q w3 wr) ∧ Hid (q < wr.heap.size)) (fun i _ => n - (intOf i).toNat)
    case atStart => exact ⟨0, by omega, rfl, hid (by simpa [u64s] using HROW4.out), HB4, hid (by omega)⟩
    case round =>
      obtain ⟨j, hj, rfl, HR, HB, HZ⟩ := hrel
      by_cases hlt : j < n
      · obtain ⟨b, o, rfl, hs⟩ := (HU3.out.mono (by rw [HQ.out]; exact HB.out)).atS (by omega)
        have e1 := hs j (by rw [HN.out]; exact hlt)
        clear hs
        have HT := hid (HTK.out j (by rw [HN.out]; exact hlt))
        generalize xs.getD j default = x at *
        have HBS := hid (BinarySearchS_any (.slice A3 d c3) D x wr (by have h9 := HDR.out.mono (by rw [HQ.out]; exact HB.out); rw [HD.out]; exact h9) (by rw [HD.out]; omega) HUP.out)
        have hpl := firstGeS_le D x
        rw [HD.out] at hpl
        generalize firstGeS D x = p at *
        have hpu : IntKind.u64.wrap (p : Int) = (p : Int) := by rw [IntKind.wrap_u64]; omega
        go_wp2_with (go_at_call 116; refine HBS.out.mono ?_; rintro e w5 ⟨⟨bb, rfl⟩, nn, hw5⟩; have HR5 : Hid (Row w5 q 68 (u64s (ls.take j) ++ List.replicate (n - j) (.int .u64 0))) := (hid (by rw [hw5]; exact HR.out.drewN nn)); have HB5 : Hid (Below q w3 w5) := (hid (by rw [hw5]; exact Go.below_drewN HB.out nn)); have HZ5 : Hid (q < w5.heap.size) := (hid (by rw [hw5]; exact HZ.out)); clear hw5; have hcell : w5.cell? ⟨q, j, none⟩ = some (.int .u64 0) := (by rw [HR5.out.cell]; exact get_fill _ _ _ _ (by simp [u64s, List.length_take, HLC.out]; omega) (by omega)); have hfr := HR5.out.frozen j)
        go_roundw
        case rel =>
          refine ⟨j + 1, by omega, by go_num, hid ?_, hid (below_set HB5.out _ _ _ (Nat.le_refl _)), hid (by simpa [World.setCell] using HZ5.out)⟩
          have hss := HR5.out.set j (.int .u64 (p : Int))
          rw [set_fill _ _ _ _ _ (by simp [u64s, List.length_take, HLC.out]; omega) (by omega)] at hss
          rw [HT.out, u64s_append, ← Nat.sub_sub n j 1]
          exact hss
        case measure => simp [intOf]; omega
      · obtain rfl : j = n := by omega
        have htk : ls.take j = ls := by rw [← HLC.out, List.take_length]
        rw [htk, Nat.sub_self, List.replicate_zero, List.append_nil] at HR
        have HRD := hid (owns_rd (HR.out.owns (B := q) (Nat.le_refl _) (n := j) (by rw [u64s_length, HLC.out]) (by unfold maxLen; omega)))
        have HND := hid (fun (w2 : World) => Need_any d w2 (by omega))
        generalize needN d = nd at *
        have HPK := hid (fun (w2 : World) (h : Below wr.heap.size wr w2) => Pack_any (.slice (some ⟨q, 0, none⟩) j j) ls (nd : Nat) w2 (by rw [HLC.out]; exact HRD.out.mono h) HCV.out (by rw [HLC.out]; unfold maxLen; omega))
        have HWL := hid (packR_lt64 (nd : Nat) ls)
        have HWN := hid (packR_le (nd : Nat) ls (by rw [HLC.out]; exact hl))
        generalize okVals (nd : Nat) ls = okp at *
        generalize packR (nd : Nat) ls = ws at *
        have HBW : Hid (Below w3.heap.size w3 wr) := hid (by rw [HQ.out]; exact HB.out)
        have HDR2 := hid (HDR.out.mono HBW.out)
        have HBWW := hid (L2.out.trans (HBW.out.mono L2.out.size))
        clear HR HB HTK HCV HU3 HUP
        generalize wr = w5 at *
        have HN0 := hid (fun (w2 : World) => AppendU32_any w2.heap.size (.slice none 0 0) [] d w2 (OwnB.nil _ _) (Nat.le_refl _) (by omega) (by simp))
        simp only [List.nil_append] at HN0
        have HHH : Hid ((leN 4 d).length = 4) := hid (leN_length 4 d)
        generalize leN 4 d = hd at *
        have HPL := hid (fun (A5 : Option Addr) (c5 : Nat) (w0 w6 : World) (h0 : Rd w0 (.slice A3 d c3) d 1 (strs D)) (h1 : OwnB w0.heap.size w6 (.slice A5 hd.length c5) hd) (h2 : Below w0.heap.size w0 w6) => AppendListS_any w0.heap.size (.slice A5 hd.length c5) (.slice A3 d c3) hd D w6 h1 (Stay.low (by rw [HD.out]; exact h0) h2 (Nat.le_refl _)) h2.size (by rw [HHH.out]; omega) (by rw [HD.out]; omega) HSD.out)
        have HBL : Hid ((hd ++ strsB D).length ≤ 4 + 4 * d + 67108864) := hid (by rw [List.length_append, HHH.out, strsB_len, HD.out]; have := HSD.out; omega)
        generalize hd ++ strsB D = bs at *
        have HPA := hid (fun (A5 : Option Addr) (c5 : Nat) (A6 : Option Addr) (c6 : Nat) (w0 w6 : World) (h0 : Rd w0 (.slice A6 ws.length c6) ws.length 1 (u64s ws)) (h1 : OwnB w0.heap.size w6 (.slice A5 bs.length c5) bs) (h2 : Below w0.heap.size w0 w6) => AppendU64s_any w0.heap.size (.slice A5 bs.length c5) (.slice A6 ws.length c6) bs ws w6 h1 (Stay.low h0 h2 (Nat.le_refl _)) HWL.out h2.size (by have := HBL.out; omega) HWN.out)
        generalize bs ++ le8 ws = R at *
        have hma := m_Append_S
        go_wp2_with (first
          | (go_at_call 117; refine (HND.out _).mono ?_; rintro e w6 ⟨rfl, hw⟩; replace hw := hw.symm; subst hw)
          | (go_at_call 118; refine (HPK.out _ (brefl _)).mono ?_; rintro e w6 ⟨r, rfl, h1, h2⟩; obtain ⟨A6, c6, rfl, _⟩ := owns_form h1; have P1 := hid (owns_rd h1); have P2 := hid h2; clear h1 h2)
          | (go_at_call 119; refine (HN0.out w6).mono ?_; rintro e w7 ⟨r, rfl, h1, h2, h3, h4⟩; obtain ⟨A7, c7, rfl⟩ := h1.form; have Q1 := hid h1; have Q2 := hid h2; clear h1 h2 h3 h4)
          | (go_at_call 215; refine (HPL.out _ _ w6 w7 (HDR2.out.mono P2.out) Q1.out Q2.out).mono ?_; rintro e w8 ⟨r, rfl, h1, h2, h3, h4⟩; obtain ⟨A8, c8, rfl⟩ := h1.form; have R1 := hid h1; have R2 := hid (Q2.out.trans h2); clear h1 h2 h3 h4 hma)
          | (go_at_call 56; refine (HPA.out _ _ _ _ w6 w8 P1.out R1.out R2.out).mono ?_; rintro e w9 ⟨r, rfl, h1, h2, h3, h4⟩; obtain ⟨A9, c9, rfl⟩ := h1.form; have S1 := hid h1; have S2 := hid (R2.out.trans h2); clear h1 h2 h3 h4))
        go_ret3
        have G2 := hid (HBWW.out.trans ((P2.out.trans (S2.out.mono P2.out.size)).mono HBWW.out.size))
        have G1 : Hid (OwnB w.heap.size w9 (.slice A9 R.length c9) R0) := hid (by rw [← HRR.out]; exact owns_low S1.out (Nat.le_trans HBWW.out.size P2.out.size))
        have G3 : Hid ((nd : Int) = nw) := hid (by rw [HNW.out])
        exact ⟨_, _, rfl, ⟨_, _, _, rfl⟩, fun _ => ⟨G3.out, G1.out⟩, G2.out⟩
end Go.Proofs.YtdlkdiaobbakiaaGreatDoor
