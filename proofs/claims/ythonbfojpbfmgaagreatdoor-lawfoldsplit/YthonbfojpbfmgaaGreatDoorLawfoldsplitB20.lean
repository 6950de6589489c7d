/- Package codec: runs of integers put into bytes. -/
import Derived.Test.YthonbfojpbfmgaaGreatDoorLawfoldsplitB18
import Derived.Test.YthonbfojpbfmgaaGreatDoorLawfoldsplitB4
import Derived.Test.YthonbfojpbfmgaaGreatDoorLawfoldsplitB5
import Derived.Test.YthonbfojpbfmgaaGreatDoorLawfoldsplitB19
set_option linter.unusedVariables false
set_option linter.unusedSimpArgs false
set_option linter.unnecessarySimpa false
set_option maxRecDepth 100000
namespace Go.Proofs.YthonbfojpbfmgaaGreatDoor
open Go.RowKit

theorem m_Append_I : ∀ w : World, (method 386 68 (.agg #[]) "AppendList").run Tryz.prog w = .ok (270, .agg #[]) w := fun _ => by kernel_rfl
theorem ordS_refl0 : ordS ByteArray.empty ByteArray.empty = 0 := by decide +kernel
theorem eqP_pI (x y : Int) : eqP (pI x) (pI y) = decide (x = y) := by
  unfold eqP ordP pI
  simp only [ordS_refl0]
  by_cases h1 : x < y
  · rw [if_pos h1]; have : ¬ x = y := by omega
    simp [this]
  · rw [if_neg h1]
    by_cases h2 : y < x
    · rw [if_pos h2]; have : ¬ x = y := by omega
      simp [this]
    · rw [if_neg h2]; have : x = y := by omega
      simp [this]
theorem pI_get (xs : List Int) (t : Nat) (h : t < xs.length) : (xs.map pI).getD t dfP = pI (xs.getD t 0) := by
  simp [List.getD, List.getElem?_eq_getElem h]
theorem endAt_I (xs : List Int) (t : Nat) (h : t + 1 < xs.length) : endAt (xs.map pI) t = !decide (xs.getD t 0 = xs.getD (t + 1) 0) := by
  unfold endAt
  rw [pI_get xs t (by omega), pI_get xs (t + 1) h, eqP_pI, List.length_map, decide_eq_false (by omega), Bool.false_or]
theorem endAt_last (vs : List PV) (t : Nat) (h : t + 1 = vs.length) : endAt vs t = true := by
  unfold endAt; rw [decide_eq_true h, Bool.true_or]
theorem textB_heads (xs : List Int) : textB ((runHeads (xs.map pI) xs.length).map Prod.snd) = [] := by
  unfold textB runHeads
  rw [List.flatMap_eq_nil_iff]
  intro s hs
  simp only [List.map_map, List.mem_map, Function.comp] at hs
  obtain ⟨i, hi, rfl⟩ := hs
  simp only [endIx, List.mem_filter, List.mem_range] at hi
  rw [pI_get xs i hi.1]
  rfl
set_option maxHeartbeats 8000000 in
theorem runsPayloadI_any (xs : List Int) (u : Value) (w : World) (hu : Rd w u xs.length 1 (i64s xs)) (hl : xs.length ≤ 1048576) :
    Calls Tryz.prog 181 #[.iface 68 (.agg #[]), u] w fun e w' => ∃ r, e = .returned r ∧ OwnB w.heap.size w' r (runsB 1 (xs.map pI)) ∧ Below w.heap.size w w' := by
  have HU := hid hu
  obtain ⟨A1, c1, rfl, _, _, _⟩ := hu.form
  have HRR : Hid (runsB 1 (xs.map pI) = leN 4 (runEndsL (xs.map pI) xs.length).length ++ le4 ((runEndsL (xs.map pI) xs.length).map Int.ofNat) ++ le8I ((runHeads (xs.map pI) xs.length).map Prod.fst)) := hid (by
    unfold runsB listB headB
    rw [List.length_map, textB_heads, if_pos rfl, List.append_nil]
    congr 2
    simp [le4, le4N, List.flatMap_map])
  generalize runsB 1 (xs.map pI) = R at *
  obtain ⟨n, hn⟩ : ∃ n, xs.length = n := ⟨_, rfl⟩
  have HN := hid hn
  simp only [hn] at HU HRR hl
  clear hu
  simp only [hn]
  have HVN : Hid ((xs.map pI).length = n) := hid (by rw [List.length_map]; exact hn)
  clear hn
  go_enter Tryz.func181, Tryz.ntmps181
  go_wp2_with fail
  go_loopw [5, 6, 12] (fun ev fv i wr => ∃ t : Nat, t ≤ n ∧ i = .int .i64 t ∧ Hid (wr.ownsRow w.heap.size 3 1 ev (runEndsL (xs.map pI) t).length (i64s ((runEndsL (xs.map pI) t).map Int.ofNat))) ∧ Hid (wr.ownsRow w.heap.size 2 1 fv (runEndsL (xs.map pI) t).length (i64s ((runHeads (xs.map pI) t).map Prod.fst))) ∧ Hid (Apart ev fv) ∧ Hid (Below w.heap.size w wr)) (fun _ _ i _ => n - (intOf i).toNat)
  case atStart => exact ⟨0, by omega, rfl, hid (World.ownsRow_nil _ _ _ _), hid (World.ownsRow_nil _ _ _ _), hid (fun k h => by cases h), hid (brefl w)⟩
  case round =>
    obtain ⟨t, ht, rfl, HE, HF, HAP, HB⟩ := hrel
    by_cases hlt : t < n
    · obtain ⟨b, o, rfl, hcells⟩ := (HU.out.mono HB.out).atI (by omega)
      have l0 := hcells t (by rw [HN.out]; exact hlt)
      have HC := hid hcells
      clear hcells
      have HSE := hid (runEndsL_succ (xs.map pI) t)
      have HSF := hid (runHeads_succ (xs.map pI) t)
      rw [pI_get xs t (by rw [HN.out]; exact hlt)] at HSF
      have HML := hid (runEndsL_len (xs.map pI) t)
      have HEA := hid (fun (h : t + 1 < n) => endAt_I xs t (by rw [HN.out]; exact h))
      have HEL := hid (fun (h : t + 1 = n) => endAt_last (xs.map pI) t (by rw [HVN.out]; exact h))
      generalize xs.getD t 0 = x at *
      generalize runEndsL (xs.map pI) t = es at *
      generalize runHeads (xs.map pI) t = hs at *
      obtain ⟨m, hm⟩ : ∃ m, es.length = m := ⟨_, rfl⟩
      have HM := hid hm
      simp only [hm] at HE HF HML
      have hm9 : m ≤ 1048576 := by have := HML.out; omega
      clear hm
      obtain ⟨E1, ce1, rfl, _⟩ := owns_form HE.out
      obtain ⟨F1, cf1, rfl, _⟩ := owns_form HF.out
      have HSZ := hid HB.out.size
      have hlast : t + 1 = n ∨ t + 1 < n := by omega
      by_cases hend : endAt (xs.map pI) t = true
      · have HEN := hid hend
        have hg : ((t : Int) + 1 == (n : Int)) = true ∨ (t + 1 < n ∧ ∃ y, xs.getD (t + 1) 0 = y ∧ y ≠ x) := by
          rcases hlast with h | h
          · exact .inl (by simp; omega)
          · refine .inr ⟨h, _, rfl, ?_⟩
            have h2 := HEA.out h
            rw [hend] at h2
            intro h3
            rw [h3] at h2
            simp at h2
        clear hend
        rcases hg with i0 | ⟨h1, y, hy, hyx⟩
        · go_upto_region 8 with (at_builtin; refine wpList_append1W rfl (.tmp 31) (.tmp 34) rfl 3 (.int .i64 0) 8 Tryz.underlying92 Tryz.infoI64 rfl rfl rfl HE.out HSZ.out (by rfl) (by unfold maxLen; omega) (by omega) ?_; intro v5 w5 ho5 hb5 hz5 hk5 hw5)
          have HO5 := hid ho5
          have HB5 := hid hb5
          have HZ5 := hid hz5
          have HK5 := hid (show Kp _ wr w5 v5 from ⟨hk5, fun k hk => by
            rcases hw5 with h | h
            · exact .inl (by rw [← h]; exact hk.symm)
            · exact .inr (h.1 k hk)⟩)
          clear ho5 hb5 hz5 hk5 hw5
          have HF5 := hid (owns_kp HF.out HK5.out HAP.out)
          have HAP5 := hid (HAP.out.left HK5.out (fun k hk => (HF.out.lt k hk).2))
          have HS5 := hid (Nat.le_trans HSZ.out HZ5.out)
          obtain ⟨E2, ce2, rfl, _⟩ := owns_form HO5.out
          go_wp2_with (at_builtin; refine wpList_append1W rfl (.tmp 36) (.tmp 38) rfl 2 (.int .i64 0) 8 Tryz.underlying51 Tryz.info64 rfl rfl rfl HF5.out HS5.out (by rfl) (by unfold maxLen; omega) (by omega) ?_; intro v6 w6 ho6 hb6 hz6 hk6 hw6)
          have HO6 := hid ho6
          have HB6 := hid hb6
          have HK6 := hid (show Kp _ w5 w6 v6 from ⟨hk6, fun k hk => by
            rcases hw6 with h | h
            · exact .inl (by rw [← h]; exact hk.symm)
            · exact .inr (h.1 k hk)⟩)
          clear ho6 hb6 hz6 hk6 hw6
          have HE6 := hid (owns_kp HO5.out HK6.out HAP5.out.symm)
          have HAP6 := hid (HAP5.out.right HK6.out (fun k hk => (HO5.out.lt k hk).2))
          go_roundw
          case rel =>
            have G1 : Hid ((runEndsL (xs.map pI) (t + 1)).length = m + 1) := hid (by rw [HSE.out, if_pos HEN.out, List.length_append, HM.out]; rfl)
            have G2 : Hid (i64s ((runEndsL (xs.map pI) (t + 1)).map Int.ofNat) = i64s (es.map Int.ofNat) ++ [.int .i64 ((t : Int) + 1)]) := hid (by rw [HSE.out, if_pos HEN.out, List.map_append, i64s_append]; rfl)
            have G3 : Hid (i64s ((runHeads (xs.map pI) (t + 1)).map Prod.fst) = i64s (hs.map Prod.fst) ++ [.int .i64 x]) := hid (by rw [HSF.out, if_pos HEN.out, List.map_append, i64s_append]; rfl)
            exact ⟨t + 1, by omega, by go_num, hid (by rw [G1.out, G2.out]; exact HE6.out), hid (by rw [G1.out, G3.out]; exact HO6.out), HAP6, hid (HB.out.trans (HB5.out.trans HB6.out))⟩
          case measure => simp [intOf]; omega
        · have l1 := HC.out (t + 1) (by rw [HN.out]; exact h1)
          rw [hy] at l1
          have iw : IntKind.i64.wrap ((t : Int) + 1) = (t : Int) + 1 := by rw [IntKind.wrap_i64]; omega
          have ig1 : (0 : Int) ≤ (t : Int) + 1 := by omega
          have ig2 : (t : Int) + 1 < (n : Int) := by omega
          have i0 : ((t : Int) + 1 == (n : Int)) = false := by simp; omega
          have iy : (y != x) = true := by simp [hyx]
          clear hy
          go_upto_region 8 with (at_builtin; refine wpList_append1W rfl (.tmp 31) (.tmp 34) rfl 3 (.int .i64 0) 8 Tryz.underlying92 Tryz.infoI64 rfl rfl rfl HE.out HSZ.out (by rfl) (by unfold maxLen; omega) (by omega) ?_; intro v5 w5 ho5 hb5 hz5 hk5 hw5)
          have HO5 := hid ho5
          have HB5 := hid hb5
          have HZ5 := hid hz5
          have HK5 := hid (show Kp _ wr w5 v5 from ⟨hk5, fun k hk => by
            rcases hw5 with h | h
            · exact .inl (by rw [← h]; exact hk.symm)
            · exact .inr (h.1 k hk)⟩)
          clear ho5 hb5 hz5 hk5 hw5
          have HF5 := hid (owns_kp HF.out HK5.out HAP.out)
          have HAP5 := hid (HAP.out.left HK5.out (fun k hk => (HF.out.lt k hk).2))
          have HS5 := hid (Nat.le_trans HSZ.out HZ5.out)
          obtain ⟨E2, ce2, rfl, _⟩ := owns_form HO5.out
          go_wp2_with (at_builtin; refine wpList_append1W rfl (.tmp 36) (.tmp 38) rfl 2 (.int .i64 0) 8 Tryz.underlying51 Tryz.info64 rfl rfl rfl HF5.out HS5.out (by rfl) (by unfold maxLen; omega) (by omega) ?_; intro v6 w6 ho6 hb6 hz6 hk6 hw6)
          have HO6 := hid ho6
          have HB6 := hid hb6
          have HK6 := hid (show Kp _ w5 w6 v6 from ⟨hk6, fun k hk => by
            rcases hw6 with h | h
            · exact .inl (by rw [← h]; exact hk.symm)
            · exact .inr (h.1 k hk)⟩)
          clear ho6 hb6 hz6 hk6 hw6
          have HE6 := hid (owns_kp HO5.out HK6.out HAP5.out.symm)
          have HAP6 := hid (HAP5.out.right HK6.out (fun k hk => (HO5.out.lt k hk).2))
          go_roundw
          case rel =>
            have G1 : Hid ((runEndsL (xs.map pI) (t + 1)).length = m + 1) := hid (by rw [HSE.out, if_pos HEN.out, List.length_append, HM.out]; rfl)
            have G2 : Hid (i64s ((runEndsL (xs.map pI) (t + 1)).map Int.ofNat) = i64s (es.map Int.ofNat) ++ [.int .i64 ((t : Int) + 1)]) := hid (by rw [HSE.out, if_pos HEN.out, List.map_append, i64s_append]; rfl)
            have G3 : Hid (i64s ((runHeads (xs.map pI) (t + 1)).map Prod.fst) = i64s (hs.map Prod.fst) ++ [.int .i64 x]) := hid (by rw [HSF.out, if_pos HEN.out, List.map_append, i64s_append]; rfl)
            exact ⟨t + 1, by omega, by go_num, hid (by rw [G1.out, G2.out]; exact HE6.out), hid (by rw [G1.out, G3.out]; exact HO6.out), HAP6, hid (HB.out.trans (HB5.out.trans HB6.out))⟩
          case measure => simp [intOf]; omega
      · have HEN := hid hend
        have h1 : t + 1 < n := by
          rcases hlast with h | h
          · exact absurd (HEL.out h) hend
          · exact h
        obtain ⟨y, hy, hyx⟩ : ∃ y, xs.getD (t + 1) 0 = y ∧ y = x := by
          refine ⟨_, rfl, ?_⟩
          have h2 := HEA.out h1
          rw [Bool.eq_false_iff.2 hend] at h2
          simp at h2
          exact h2.symm
        clear hend
        have l1 := HC.out (t + 1) (by rw [HN.out]; exact h1)
        rw [hy] at l1
        have iw : IntKind.i64.wrap ((t : Int) + 1) = (t : Int) + 1 := by rw [IntKind.wrap_i64]; omega
        have ig1 : (0 : Int) ≤ (t : Int) + 1 := by omega
        have ig2 : (t : Int) + 1 < (n : Int) := by omega
        have i0 : ((t : Int) + 1 == (n : Int)) = false := by simp; omega
        have iy : (y != x) = false := by simp [hyx]
        clear hy
        go_wp2_with fail
        go_roundw
        case rel => exact ⟨t + 1, by omega, by go_num, hid (by rw [HSE.out, if_neg HEN.out, HM.out]; exact HE.out), hid (by rw [HSE.out, HSF.out, if_neg HEN.out, if_neg HEN.out, HM.out]; exact HF.out), HAP, HB⟩
        case measure => simp [intOf]; omega
    · obtain rfl : t = n := by omega
      have HML := hid (runEndsL_len (xs.map pI) t)
      have HMX := hid (runEndsL_lt (xs.map pI) t)
      have HHL := hid (runHeads_len (xs.map pI) t)
      generalize runEndsL (xs.map pI) t = es at *
      generalize runHeads (xs.map pI) t = hs at *
      obtain ⟨m, hm⟩ : ∃ m, es.length = m := ⟨_, rfl⟩
      have HM := hid hm
      simp only [hm] at HE HF HML HHL HRR
      have hm9 : m ≤ 1048576 := by have := HML.out; omega
      clear hm
      obtain ⟨E1, ce1, rfl, _⟩ := owns_form HE.out
      obtain ⟨F1, cf1, rfl, _⟩ := owns_form HF.out
      have HE' := hid (owns_rd HE.out)
      have HF' := hid (owns_rd HF.out)
      have HN0 := hid (AppendU32_any wr.heap.size (.slice none 0 0) [] m wr (OwnB.nil _ _) (Nat.le_refl _) (by omega) (by simp))
      rw [List.nil_append] at HN0
      have HHH : Hid ((leN 4 m).length = 4) := hid (leN_length 4 m)
      have HLE : Hid ((es.map Int.ofNat).length = m) := hid (by rw [List.length_map]; exact HM.out)
      have HLF : Hid ((hs.map Prod.fst).length = m) := hid (by rw [List.length_map]; exact HHL.out)
      have HXV : Hid (∀ x ∈ es.map Int.ofNat, 0 ≤ x ∧ x < 4294967296) := hid (by
        intro x hx
        obtain ⟨y, hy, rfl⟩ := List.mem_map.1 hx
        have := HMX.out y hy
        exact ⟨Int.natCast_nonneg _, by have h : Int.ofNat y = (y : Int) := rfl; omega⟩)
      clear HE HF HAP HU HMX HHL HM
      generalize es.map Int.ofNat = eI at *
      generalize hs.map Prod.fst = hI at *
      generalize leN 4 m = hd at *
      have HPE := hid (fun (A3 : Option Addr) (c3 : Nat) (w3 : World) (h1 : OwnB wr.heap.size w3 (.slice A3 hd.length c3) hd) (h2 : Below wr.heap.size wr w3) => AppendU32s_any wr.heap.size (.slice A3 hd.length c3) (.slice E1 m ce1) hd eI w3 h1 (Stay.low (by rw [HLE.out]; exact HE'.out) h2 (Nat.le_refl _)) HXV.out h2.size (by rw [HHH.out]; omega) (by rw [HLE.out]; omega))
      have HBL : Hid ((hd ++ le4 eI).length = 4 + 4 * m) := hid (by rw [List.length_append, HHH.out, le4_len, HLE.out])
      generalize hd ++ le4 eI = bs at *
      have HPL := hid (fun (A3 : Option Addr) (c3 : Nat) (w3 : World) (h1 : OwnB wr.heap.size w3 (.slice A3 bs.length c3) bs) (h2 : Below wr.heap.size wr w3) => AppendListI_any wr.heap.size (.slice A3 bs.length c3) (.slice F1 m cf1) bs hI w3 h1 (Stay.low (by rw [HLF.out]; exact HF'.out) h2 (Nat.le_refl _)) h2.size (by have := HBL.out; omega) (by rw [HLF.out]; omega))
      rw [← HRR.out] at HPL
      generalize wr = w2 at *
      have hma := m_Append_I
      go_wp2_with (first
        | (go_at_call 222; refine HN0.out.mono ?_; rintro e w3 ⟨r, rfl, h1, h2, h3, h4⟩; obtain ⟨A3, c3, rfl⟩ := h1.form; have H1 := hid h1; have H2 := hid h2; clear h1 h2 h3 h4)
        | (go_at_call 223; refine (HPE.out _ _ _ H1.out H2.out).mono ?_; rintro e w4 ⟨r, rfl, h1, h2, h3, h4⟩; obtain ⟨A4, c4, rfl⟩ := h1.form; have K1 := hid h1; have K2 := hid (H2.out.trans h2); clear h1 h2 h3 h4)
        | (go_at_call 270; refine (HPL.out _ _ _ K1.out K2.out).mono ?_; rintro e w5 ⟨r, rfl, h1, h2, h3, h4⟩; obtain ⟨A5, c5, rfl⟩ := h1.form; have M1 := hid h1; have M2 := hid (K2.out.trans h2); clear h1 h2 h3 h4))
      go_ret
      exact ⟨_, rfl, owns_low M1.out HB.out.size, HB.out.trans (M2.out.mono HB.out.size)⟩
end Go.Proofs.YthonbfojpbfmgaaGreatDoor

/- Package codec: cells parted into values and the bitmap of the NULLs (integers). -/
set_option linter.unusedVariables false
set_option linter.unusedSimpArgs false
set_option linter.unnecessarySimpa false
set_option maxRecDepth 100000
namespace Go.Proofs.YthonbfojpbfmgaaGreatDoor
open Go.RowKit

/-- the rows of the NULLs -/
def nullIx (cs : List C3) (t : Nat) : List Nat := (List.range t).filter fun j => (cs.getD j C3.df).n
theorem nullIx_succ (cs : List C3) (t : Nat) : nullIx cs (t + 1) = if (cs.getD t C3.df).n = true then nullIx cs t ++ [t] else nullIx cs t := by
  unfold nullIx; rw [List.range_succ, List.filter_append]
  by_cases h : (cs.getD t C3.df).n = true
  · rw [if_pos h, List.filter_cons_of_pos (p := fun j => (cs.getD j C3.df).n) h]; rfl
  · rw [if_neg h, List.filter_cons_of_neg (p := fun j => (cs.getD j C3.df).n) h, List.filter_nil, List.append_nil]
theorem nullIx_len (cs : List C3) (t : Nat) : (nullIx cs t).length ≤ t := by
  have h := List.length_filter_le (fun j => (cs.getD j C3.df).n) (List.range t)
  rwa [List.length_range] at h
theorem asc_of_pair (n : Int) : ∀ (ps : List Nat) (least : Nat), ps.Pairwise (· < ·) → (∀ p ∈ ps, least ≤ p ∧ (p : Int) < n) → ascB n least (ps.map Int.ofNat) = true
  | [], _, _, _ => rfl
  | p :: ps, least, h, hb => by
    rw [List.map_cons]
    unfold ascB
    have h1 := hb p List.mem_cons_self
    have h2 := asc_of_pair n ps (p + 1) (List.pairwise_cons.1 h).2 (fun q hq => ⟨(List.pairwise_cons.1 h).1 q hq, (hb q (List.mem_cons_of_mem _ hq)).2⟩)
    have e1 : Int.ofNat p = (p : Int) := rfl
    rw [e1, decide_eq_true (by omega), decide_eq_true h1.2, show (p : Int) + 1 = ((p + 1 : Nat) : Int) by omega, h2]; rfl
theorem nulls_ok (cs : List C3) (hl : cs.length ≤ 65536) : denseOk cs.length ((nullIx cs cs.length).map Int.ofNat) = true := by
  unfold denseOk
  rw [decide_eq_true (by omega), Bool.true_and]
  refine asc_of_pair _ _ 0 (List.Pairwise.filter _ List.pairwise_lt_range) (fun p hp => ?_)
  simp only [nullIx, List.mem_filter, List.mem_range] at hp
  exact ⟨Nat.zero_le _, by omega⟩
theorem nulls_dense (cs : List C3) (hl : cs.length ≤ 65536) : denseR cs.length ((nullIx cs cs.length).map Int.ofNat) = bmL (cs.map C3.n) := by
  unfold denseR
  rw [if_pos (nulls_ok cs hl)]
  congr 1
  apply List.ext_getElem
  · simp
  · intro i h1 h2
    simp only [Int.toNat_natCast, List.length_map, List.length_range] at h1
    simp only [List.getElem_map, List.getElem_range]
    have e : ((i : Int) ∈ (nullIx cs cs.length).map Int.ofNat) ↔ cs[i].n = true := by
      simp only [List.mem_map, nullIx, List.mem_filter, List.mem_range]
      constructor
      · rintro ⟨a, ⟨ha, hb⟩, hc⟩
        obtain rfl : a = i := by have h : Int.ofNat a = (a : Int) := rfl; omega
        simpa [List.getD, List.getElem?_eq_getElem h1] using hb
      · intro h
        exact ⟨i, ⟨h1, by simpa [List.getD, List.getElem?_eq_getElem h1] using h⟩, rfl⟩
    by_cases h : cs[i].n = true
    · rw [decide_eq_true (e.2 h), h]
    · rw [decide_eq_false (fun h2 => h (e.1 h2))]; simpa using h
set_option maxHeartbeats 1000000 in
theorem ValueGen_I (n : Bool) (x : Int) (s : ByteArray) (w : World) : Calls Tryz.prog 273 #[.agg #[], .agg #[.bool n, .int .i64 x, .string s]] w fun e w' => e = .returned (.int .i64 x) ∧ Below w.heap.size w w' := by
  go_enter Tryz.func273, Tryz.ntmps273
  go_wp2
  go_ret
  exact ⟨rfl, ((brefl w).alloc (Nat.le_refl _) _).alloc (by simp) _⟩
set_option maxHeartbeats 8000000 in
theorem splitI_any (u : Value) (cs : List C3) (w : World) (hu : Rd w u cs.length 3 (cells3 cs)) (hl : cs.length ≤ 65536) :
    Calls Tryz.prog 135 #[.iface 68 (.agg #[]), u] w fun e w' => ∃ r1 r2, e = .returned (.tuple #[r1, r2]) ∧
      Rd w' r1 ((valsOf cs).map Prod.fst).length 1 (i64s ((valsOf cs).map Prod.fst)) ∧ Rd w' r2 (bmL (cs.map C3.n)).length 1 (u64s (bmL (cs.map C3.n))) ∧ Below w.heap.size w w' := by
  have HU := hid hu
  obtain ⟨A1, c1, rfl, _, _, _⟩ := hu.form
  have hdn := nulls_dense cs hl
  obtain ⟨VR, hVR⟩ : ∃ VR, (valsOf cs).map Prod.fst = VR := ⟨_, rfl⟩
  obtain ⟨NB, hNB⟩ : ∃ NB, bmL (cs.map C3.n) = NB := ⟨_, rfl⟩
  rw [hVR, hNB]
  rw [hNB] at hdn
  have HDN := hid hdn
  have HVR := hid hVR
  have HVL0 : Hid ((valsOf cs).length = VR.length) := hid (by rw [← hVR, List.length_map])
  clear hu hdn hVR hNB
  go_enter Tryz.func135, Tryz.ntmps135
  go_wp2_with fail
  go_loopw [6, 7, 14] (fun fv ev i wr => ∃ t : Nat, t ≤ cs.length ∧ i = .int .i64 t ∧ Hid (wr.ownsRow w.heap.size 3 1 ev (nullIx cs t).length (i64s ((nullIx cs t).map Int.ofNat))) ∧ Hid (wr.ownsRow w.heap.size 2 1 fv (valsOf (cs.take t)).length (i64s ((valsOf (cs.take t)).map Prod.fst))) ∧ Hid (Apart ev fv) ∧ Hid (Below w.heap.size w wr)) (fun _ _ i _ => cs.length - (intOf i).toNat)
  case atStart => exact ⟨0, by omega, rfl, hid (World.ownsRow_nil _ _ _ _), hid (World.ownsRow_nil _ _ _ _), hid (fun k h => by cases h), hid (brefl w)⟩
  case round =>
    obtain ⟨t, ht, rfl, HE, HF, HAP, HB⟩ := hrel
    by_cases hlt : t < cs.length
    · obtain ⟨b, o, rfl, hcells⟩ := (HU.out.mono HB.out).at3 (by omega)
      obtain ⟨l0, l1, l2⟩ := hcells t hlt
      clear hcells
      have HSE := hid (nullIx_succ cs t)
      have HSV := hid (valsOf_snoc (cs.take t) (cs.getD t C3.df))
      rw [← take_snoc cs C3.df t hlt] at HSV
      have HML := hid (nullIx_len cs t)
      have HVL := hid (valsOf_take_len cs t ht)
      generalize nullIx cs t = es at *
      generalize valsOf (cs.take t) = vs at *
      generalize cs.getD t C3.df = X at *
      obtain ⟨xn, xi, xs'⟩ := X
      simp only at l0 l1 l2 HSE HSV
      obtain ⟨m, hm⟩ : ∃ m, es.length = m := ⟨_, rfl⟩
      have HM := hid hm
      obtain ⟨k, hk⟩ : ∃ k, vs.length = k := ⟨_, rfl⟩
      have HKV := hid hk
      simp only [hm, hk] at HE HF HML HVL
      have hm9 : m ≤ 65536 := by have := HML.out; omega
      have hk9 : k ≤ 65536 := by have := HVL.out; omega
      clear hm hk
      obtain ⟨E1, ce1, rfl, _⟩ := owns_form HE.out
      obtain ⟨F1, cf1, rfl, _⟩ := owns_form HF.out
      have HBA := hid ((brefl wr).alloc (Nat.le_refl _) (.cells #[.bool xn, .int .i64 xi, .string xs'] 42))
      have HRW : Hid (Row (wr.alloc (.cells #[.bool xn, .int .i64 xi, .string xs'] 42)) wr.heap.size 42 [.bool xn, .int .i64 xi, .string xs']) := hid (by unfold Row; rw [heap_alloc_new])
      have HB4 := hid (HB.out.trans (HBA.out.mono HB.out.size))
      have HE4 := hid (owns_below HE.out HBA.out)
      have HF4 := hid (owns_below HF.out HBA.out)
      have HSZ4 := hid HB4.out.size
      go_upto_region 6 with fail
      generalize wr.alloc (.cells #[.bool xn, .int .i64 xi, .string xs'] 42) = w4 at *
      have k0 : w4.cell? ⟨wr.heap.size, 0, none⟩ = some (.bool xn) := by rw [HRW.out.cell]; rfl
      have k1 : w4.cell? ⟨wr.heap.size, 1, none⟩ = some (.int .i64 xi) := by rw [HRW.out.cell]; rfl
      have k2 : w4.cell? ⟨wr.heap.size, 2, none⟩ = some (.string xs') := by rw [HRW.out.cell]; rfl
      generalize wr.heap.size = q at *
      clear l0 l1 l2
      cases xn
      · simp only [Bool.false_eq_true, if_false] at HSE HSV
        have hmv := m_Value_I
        go_wp2_with (first
          | (go_at_call 273; refine (ValueGen_I false xi xs' _).mono ?_; rintro e w5 ⟨rfl, hb5⟩; have HB5 := hid (HB4.out.trans (hb5.mono HB4.out.size)); have HE5 := hid (owns_below HE4.out hb5); have HF5 := hid (owns_below HF4.out hb5); have HSZ5 := hid HB5.out.size; clear hb5 k0 k1 k2)
          | (at_builtin; refine wpList_append1W rfl (.tmp 25) (.tmp 29) rfl 2 (.int .i64 0) 8 Tryz.underlying51 Tryz.info64 rfl rfl rfl HF5.out HSZ5.out (by rfl) (by unfold maxLen; omega) (by omega) ?_; intro v6 w6 ho6 hb6 hz6 hk6 hw6))
        have HO6 := hid ho6
        have HB6 := hid hb6
        have HK6 := hid (show Kp _ w5 w6 v6 from ⟨hk6, fun k hk => by
          rcases hw6 with h | h
          · exact .inl (by rw [← h]; exact hk.symm)
          · exact .inr (h.1 k hk)⟩)
        clear ho6 hb6 hz6 hk6 hw6
        have HE6 := hid (owns_kp HE5.out HK6.out HAP.out.symm)
        have HAP6 := hid (HAP.out.right HK6.out (fun k hk => (HE5.out.lt k hk).2))
        go_roundw
        case rel =>
          have G1 : Hid ((valsOf (cs.take (t + 1))).length = k + 1) := hid (by rw [HSV.out, List.length_append, HKV.out]; rfl)
          have G3 : Hid (i64s ((valsOf (cs.take (t + 1))).map Prod.fst) = i64s (vs.map Prod.fst) ++ [.int .i64 xi]) := hid (by rw [HSV.out, List.map_append, i64s_append]; rfl)
          exact ⟨t + 1, by omega, by go_num, hid (by rw [HSE.out, HM.out]; exact HE6.out), hid (by rw [G1.out, G3.out]; exact HO6.out), HAP6, hid (HB5.out.trans HB6.out)⟩
        case measure => simp [intOf]; omega
      · simp only [if_true, List.append_nil] at HSE HSV
        go_wp2_with (at_builtin; refine wpList_append1W rfl (.tmp 21) (.tmp 23) rfl 3 (.int .i64 0) 8 Tryz.underlying92 Tryz.infoI64 rfl rfl rfl HE4.out HSZ4.out (by rfl) (by unfold maxLen; omega) (by omega) ?_; intro v6 w6 ho6 hb6 hz6 hk6 hw6)
        have HO6 := hid ho6
        have HB6 := hid hb6
        have HK6 := hid (show Kp _ w4 w6 v6 from ⟨hk6, fun k hk => by
          rcases hw6 with h | h
          · exact .inl (by rw [← h]; exact hk.symm)
          · exact .inr (h.1 k hk)⟩)
        clear ho6 hb6 hz6 hk6 hw6
        have HF6 := hid (owns_kp HF4.out HK6.out HAP.out)
        have HAP6 := hid (HAP.out.left HK6.out (fun k hk => (HF4.out.lt k hk).2))
        go_roundw
        case rel =>
          have G1 : Hid ((nullIx cs (t + 1)).length = m + 1) := hid (by rw [HSE.out, List.length_append, HM.out]; rfl)
          have G3 : Hid (i64s ((nullIx cs (t + 1)).map Int.ofNat) = i64s (es.map Int.ofNat) ++ [.int .i64 t]) := hid (by rw [HSE.out, List.map_append, i64s_append]; rfl)
          exact ⟨t + 1, by omega, by go_num, hid (by rw [G1.out, G3.out]; exact HO6.out), hid (by rw [HSV.out, HKV.out]; exact HF6.out), HAP6, hid (HB4.out.trans HB6.out)⟩
        case measure => simp [intOf]; omega
    · obtain rfl : t = cs.length := by omega
      rw [List.take_length] at HF
      rw [HVR.out, HVL0.out] at HF
      have HML := hid (nullIx_len cs cs.length)
      generalize nullIx cs cs.length = es at *
      have HLE : Hid ((es.map Int.ofNat).length = es.length) := hid (by rw [List.length_map])
      obtain ⟨E1, ce1, rfl, _⟩ := owns_form HE.out
      obtain ⟨F1, cf1, rfl, _⟩ := owns_form HF.out
      have HDE := hid (Dense_any (.slice E1 es.length ce1) (es.map Int.ofNat) cs.length wr (by rw [HLE.out]; exact owns_rd HE.out) (by rw [HLE.out]; have := HML.out; unfold maxLen; omega))
      rw [HDN.out] at HDE
      have HFR := hid (owns_rd HF.out)
      clear HE HF HAP HU HLE HDN HML HVR HVL0
      generalize es.map Int.ofNat = eI at *
      generalize denseOk cs.length eI = ok at *
      generalize wr = w2 at *
      go_wp2_with (go_at_call 173; refine HDE.out.mono ?_; rintro e w5 ⟨r, rfl, h1, h2⟩; obtain ⟨N1, cn1, rfl, _⟩ := owns_form h1; have H1 := hid (owns_rd h1); have H2 := hid h2; clear h1 h2)
      go_ret2
      exact ⟨_, _, rfl, HFR.out.mono H2.out, H1.out, HB.out.trans (H2.out.mono HB.out.size)⟩
end Go.Proofs.YthonbfojpbfmgaaGreatDoor

/- Package codec: numbers less a base, packed. -/
set_option linter.unusedVariables false
set_option linter.unusedSimpArgs false
set_option linter.unnecessarySimpa false
set_option maxRecDepth 100000
namespace Go.Proofs.YthonbfojpbfmgaaGreatDoor
open Go.RowKit

def lnF (b : Nat) (x : Int) : Nat := (toU x + 18446744073709551616 - b) % 18446744073709551616
theorem lnF_eq (b : Nat) (x : Int) : lnF b x = (toU x + 18446744073709551616 - b) % 18446744073709551616 := by unfold lnF; rfl
theorem take_mapd_snoc {α β : Type} (g : α → β) (xs : List α) (d : α) (j : Nat) (h : j < xs.length) : (xs.map g).take (j + 1) = (xs.map g).take j ++ [g (xs.getD j d)] := by
  rw [← List.map_take, ← List.map_take, take_snoc xs d j h, List.map_append, List.map_cons, List.map_nil]
theorem map_pI {β : Type} (f : PV → β) (g : Int → β) (h : ∀ x, f (pI x) = g x) (xs : List Int) : (xs.map pI).map f = xs.map g := by
  rw [List.map_map]; apply List.map_congr_left; intro x _; rw [Function.comp_apply, h]
theorem lanesF_map (b : Nat) (xs : List Int) : lanesF b (xs.map pI) = xs.map (lnF b) := by
  unfold lanesF
  exact map_pI _ _ (fun x => by rw [lnF_eq, show (pI x).1 = x from rfl]) xs
theorem lanesF_I (b : Nat) (xs : List Int) (j : Nat) (h : j < xs.length) : (lanesF b (xs.map pI)).take (j + 1) = (lanesF b (xs.map pI)).take j ++ [lnF b (xs.getD j 0)] := by
  rw [lanesF_map]; exact take_mapd_snoc _ xs 0 j h
set_option maxHeartbeats 4000000 in
theorem packFrom_any (base wd : Int) (xs : List Int) (u : Value) (w : World) (hu : Rd w u xs.length 1 (i64s xs)) (hl : xs.length ≤ 1048576) :
    Calls Tryz.prog 225 #[.int .i64 base, u, .int .i64 wd] w fun e w' => ∃ r, e = .returned (.tuple #[r, .bool (okVals wd (lanesF (toU base) (xs.map pI)))]) ∧
      w'.ownsRow w.heap.size 40 1 r (packR wd (lanesF (toU base) (xs.map pI))).length (u64s (packR wd (lanesF (toU base) (xs.map pI)))) ∧ Below w.heap.size w w' := by
  have HU := hid hu
  obtain ⟨A1, c1, rfl, _, _, _⟩ := hu.form
  obtain ⟨n, hn⟩ : ∃ n, xs.length = n := ⟨_, rfl⟩
  have HN := hid hn
  rw [hn] at hl HU
  have HTK := hid (lanesF_I (toU base) xs)
  have HLL : Hid ((lanesF (toU base) (xs.map pI)).length = n) := hid (by unfold lanesF; rw [List.length_map, List.length_map]; exact hn)
  have HLV : Hid (∀ x ∈ lanesF (toU base) (xs.map pI), x < 18446744073709551616) := hid (by
    intro x hx
    obtain ⟨y, _, rfl⟩ := List.mem_map.1 hx
    exact Nat.mod_lt _ (by decide))
  simp only [hn]
  have hbu := wrap_toU base
  have hbl := toU_lt base
  generalize lanesF (toU base) (xs.map pI) = ls at *
  generalize toU base = bu at *
  obtain ⟨R, hR⟩ : ∃ R, packR wd ls = R := ⟨_, rfl⟩
  obtain ⟨ok, hok⟩ : ∃ ok, okVals wd ls = ok := ⟨_, rfl⟩
  have HRR := hid hR
  have HOK := hid hok
  rw [hR, hok]
  clear hu hn hR hok
  go_enter Tryz.func225, Tryz.ntmps225
  go_wp2
  refine upon_make 40 (.int .u64 0) 8 Tryz.underlying28 Tryz.info45 rfl n (by omega) (by omega) (by omega) (by unfold maxLen; omega) ?_
  intro w2 hrow2 hb2 hsz2
  obtain ⟨q, hq⟩ : ∃ q, w.heap.size = q := ⟨_, rfl⟩
  have HQ := hid hq
  have hb3 := hb2
  rw [hq] at hrow2 hb2 hsz2 ⊢
  have HROW2 := hid hrow2
  have HB2 := hid hb2
  clear hrow2 hb2 hq hb3
  go_wp2
  go_loopw [16] (fun i wr => ∃ j : Nat, j ≤ n ∧ i = .int .i64 j ∧ Hid (Row wr q 40 (u64s (ls.take j) ++ List.replicate (n - j) (.int .u64 0))) ∧ Hid (Below q w wr) ∧ Hid (q < wr.heap.size)) (fun i _ => n - (intOf i).toNat)
  case atStart => exact ⟨0, by omega, rfl, hid (by simpa [u64s] using HROW2.out), HB2, hid (by omega)⟩
  case round =>
    obtain ⟨j, hj, rfl, HR, HB, HZ⟩ := hrel
    by_cases hlt : j < n
    · obtain ⟨b, o, rfl, hs⟩ := (HU.out.mono (by rw [HQ.out]; exact HB.out)).atI (by omega)
      have e1 := hs j (by rw [HN.out]; exact hlt)
      clear hs
      have HT := hid (HTK.out j (by rw [HN.out]; exact hlt))
      have hcell : wr.cell? ⟨q, j, none⟩ = some (.int .u64 0) := by
        rw [HR.out.cell]; exact get_fill _ _ _ _ (by simp [u64s, List.length_take, HLL.out]; omega) (by omega)
      have hfr := HR.out.frozen j
      generalize xs.getD j 0 = x at *
      have hxu := wrap_toU x
      have hxl := toU_lt x
      obtain ⟨y, hy⟩ : ∃ y, toU x = y := ⟨_, rfl⟩
      have HYX := hid hy
      rw [hy] at hxu hxl
      clear hy
      obtain ⟨ln, hln⟩ : ∃ ln, lnF bu x = ln := ⟨_, rfl⟩
      rw [hln] at HT
      rw [lnF_eq, HYX.out] at hln
      have hws2 : ((y : Int) - (bu : Int)) % 18446744073709551616 = (ln : Int) := by omega
      have hws1 : IntKind.u64.wrap ((y : Int) - (bu : Int)) = (ln : Int) := by rw [IntKind.wrap_u64]; exact hws2
      clear hln
      go_wp2
      go_roundw
      case rel =>
        refine ⟨j + 1, by omega, by go_num, hid ?_, hid (below_set HB.out _ _ _ (Nat.le_refl _)), hid (by simpa [World.setCell] using HZ.out)⟩
        have hss := HR.out.set j (.int .u64 (ln : Int))
        rw [set_fill _ _ _ _ _ (by simp [u64s, List.length_take, HLL.out]; omega) (by omega)] at hss
        rw [HT.out, u64s_append, ← Nat.sub_sub n j 1]
        exact hss
      case measure => simp [intOf]; omega
    · obtain rfl : j = n := by omega
      have htk : ls.take j = ls := by rw [← HLL.out, List.take_length]
      rw [htk, Nat.sub_self, List.replicate_zero, List.append_nil] at HR
      have HRD := hid (owns_rd (HR.out.owns (B := q) (Nat.le_refl _) (n := j) (by rw [u64s_length, HLL.out]) (by unfold maxLen; omega)))
      have HPK := hid (Pack_any (.slice (some ⟨q, 0, none⟩) j j) ls wd wr (by rw [HLL.out]; exact HRD.out) HLV.out (by rw [HLL.out]; unfold maxLen; omega))
      rw [HRR.out, HOK.out] at HPK
      go_wp2_with (go_at_call 221; refine HPK.out.mono ?_; rintro e w5 ⟨r, rfl, h1, h2⟩; obtain ⟨N1, cn1, rfl, _⟩ := owns_form h1; have H1 := hid h1; have H2 := hid h2; clear h1 h2)
      go_ret2
      have hqq := HQ.out
      subst hqq
      exact ⟨_, rfl, owns_low H1.out HB.out.size, HB.out.trans (H2.out.mono HB.out.size)⟩
end Go.Proofs.YthonbfojpbfmgaaGreatDoor

/- slices.BinarySearch over numbers of 64 bits. -/
set_option linter.unusedVariables false
set_option linter.unusedSimpArgs false
set_option linter.unnecessarySimpa false
set_option maxRecDepth 20000
namespace Go.Proofs.YthonbfojpbfmgaaGreatDoor
open Go.RowKit

theorem isNaNi64_any (x : Int) (w : World) : Calls Tryz.prog 239 #[.int .i64 x] w fun e w' => e = .returned (.bool false) ∧ w' = w := by
  have e1 : (x != x) = false := by simp
  go_enter Tryz.func239, Tryz.ntmps239
  go_wp2
  go_ret
  exact ⟨rfl, rfl⟩
theorem isNaNs64_any (x : Int) (w : World) : Calls Tryz.prog 235 #[.int .i64 x] w fun e w' => e = .returned (.bool false) ∧ w' = w := by
  have e1 : (x != x) = false := by simp
  go_enter Tryz.func235, Tryz.ntmps235
  go_wp2
  go_ret
  exact ⟨rfl, rfl⟩
theorem Less64_any (x y : Int) (w : World) : Calls Tryz.prog 215 #[.int .i64 x, .int .i64 y] w fun e w' => e = .returned (.bool (decide (x < y))) ∧ w' = w := by
  go_enter Tryz.func215, Tryz.ntmps215
  go_wp2_with (go_at_call 239; refine (isNaNi64_any _ _).mono ?_; rintro e w' ⟨rfl, rfl⟩)
  all_goals go_ret
  all_goals exact ⟨rfl, rfl⟩

set_option maxHeartbeats 2000000 in
theorem BinarySearch64f_any (v : Value) (es : List Int) (t : Int) (w : World) (hx : Rd w v es.length 1 (i64s es)) (hl : es.length ≤ 1048576) (hup : ∀ a b, a < b → b < es.length → es.getD a 0 < es.getD b 0) :
    Calls Tryz.prog 207 #[v, .int .i64 t] w fun e w' => e = .returned (.tuple #[.int .i64 (firstGe es t : Nat), .bool (decide (t ∈ es))]) ∧ ∃ n, w' = w.drewN n := by
  obtain ⟨A, ca, rfl, hlc, hcm, hA⟩ := hx.form
  have HX := hid hx
  have HUP := hid hup
  clear hx hup
  go_enter Tryz.func207, Tryz.ntmps207
  go_wp2
  go_loop [7, 8] (fun u x => ∃ i j : Nat, i ≤ j ∧ j ≤ es.length ∧ u = .int .i64 i ∧ x = .int .i64 j ∧ (∀ a, a < i → es.getD a 0 < t) ∧ (∀ a, j ≤ a → a < es.length → t ≤ es.getD a 0)) (fun u x => (intOf x).toNat - (intOf u).toNat)
  case atStart => exact ⟨0, es.length, by omega, by omega, rfl, rfl, fun a h => by omega, fun a h1 h2 => by omega⟩
  case round =>
    obtain ⟨i, j, hij, hj, rfl, rfl, h1, h2⟩ := hrel
    have H1 := hid h1
    have H2 := hid h2
    clear h1 h2
    by_cases hlt : i < j
    · obtain ⟨b, o, rfl, hs⟩ := hA (by omega)
      obtain ⟨m, hm⟩ : ∃ m, (i + j) / 2 = m := ⟨_, rfl⟩
      have hm' : ((i : Int) + (j : Int)) / 2 = (m : Int) := by omega
      have hml : m < es.length := by omega
      have c1 := hs.int m hml
      have him : i ≤ m := by omega
      have hmj : m < j := by omega
      have HLT : Hid (es.getD m 0 < t → ∀ a, a < m + 1 → es.getD a 0 < t) := by
        intro h a ha
        by_cases ham : a = m
        · subst ham; exact h
        · have := HUP.out a m (by omega) hml; omega
      have HGE : Hid (t ≤ es.getD m 0 → ∀ a, m ≤ a → a < es.length → t ≤ es.getD a 0) := by
        intro h a ha1 ha2
        by_cases ham : a = m
        · subst ham; exact h
        · have := HUP.out m a (by omega) ha2; omega
      clear hs hA hm
      generalize es.getD m 0 = x at *
      go_wp2_with (go_at_call 215; refine (Less64_any _ _ _).mono ?_; rintro e w' ⟨rfl, hw⟩; subst hw)
      · go_round
        case rel => exact ⟨m + 1, j, by omega, by omega, by go_num, rfl, HLT.out (by assumption), H2.out⟩
        case measure => simp [intOf]; omega
      · go_round
        case rel => exact ⟨i, m, by omega, by omega, rfl, rfl, H1.out, HGE.out (by omega)⟩
        case measure => simp [intOf]; omega
    · have hf : firstGe es t = i := firstGe_eq es t i (by omega) H1.out (fun h => H2.out i (by omega) h)
      have HF := hid hf
      clear hf
      by_cases hie : i < es.length
      · obtain ⟨b, o, rfl, hs⟩ := hA (by omega)
        have c1 := hs.int i hie
        have HMEM : Hid (es.getD i 0 = t → t ∈ es) := hid (fun h => by
          rw [← h]; simp [List.getD, List.getElem?_eq_getElem hie])
        have HNOT : Hid (es.getD i 0 ≠ t → ¬ t ∈ es) := hid (fun h hm => by
          obtain ⟨a, ha, hat⟩ := List.getElem_of_mem hm
          have hg : es.getD a 0 = t := by simp [List.getD, List.getElem?_eq_getElem ha, hat]
          by_cases h1 : a < i
          · have := H1.out a h1; omega
          · by_cases h2 : a = i
            · subst h2; exact h hg
            · have h3 := HUP.out i a (by omega) ha
              have h4 := H2.out i (by omega) hie
              omega)
        clear hs hA
        generalize es.getD i 0 = x at *
        by_cases hxt : x = t
        · have hd : decide (t ∈ es) = true := decide_eq_true (HMEM.out hxt)
          have HD := hid hd
          subst hxt
          clear hd HMEM HNOT
          go_wp2_with (go_at_call 235; refine (isNaNs64_any _ _).mono ?_; rintro e w' ⟨rfl, hw⟩; subst hw)
          all_goals go_ret2
          all_goals exact ⟨by rw [HF.out, HD.out]; rfl, 0, rfl⟩
        · have hd : decide (t ∈ es) = false := decide_eq_false (HNOT.out hxt)
          have HD := hid hd
          have hb : (x == t) = false := by simpa using hxt
          clear hd HMEM HNOT hxt
          go_wp2_with (go_at_call 235; refine (isNaNs64_any _ _).mono ?_; rintro e w' ⟨rfl, hw⟩; subst hw)
          all_goals go_ret2
          all_goals exact ⟨by rw [HF.out, HD.out]; rfl, 0, rfl⟩
      · have hd : decide (t ∈ es) = false := decide_eq_false (fun hm => by
          obtain ⟨a, ha, hat⟩ := List.getElem_of_mem hm
          have hg : es.getD a 0 = t := by simp [List.getD, List.getElem?_eq_getElem ha, hat]
          have := H1.out a (by omega); omega)
        have HD := hid hd
        clear hd
        go_wp2
        all_goals go_ret2
        all_goals exact ⟨by rw [HF.out, HD.out]; rfl, 0, rfl⟩
theorem BinarySearch64_any (v : Value) (es : List Int) (t : Int) (w : World) (hx : Rd w v es.length 1 (i64s es)) (hl : es.length ≤ 1048576) (hup : ∀ a b, a < b → b < es.length → es.getD a 0 < es.getD b 0) :
    Calls Tryz.prog 207 #[v, .int .i64 t] w fun e w' => (∃ b : Value, e = .returned (.tuple #[.int .i64 (firstGe es t : Nat), b])) ∧ ∃ n, w' = w.drewN n := by
  refine (BinarySearch64f_any v es t w hx hl hup).mono ?_
  rintro e w' ⟨rfl, h⟩
  exact ⟨⟨_, rfl⟩, h⟩
end Go.Proofs.YthonbfojpbfmgaaGreatDoor

/- Package kernel: the test of a leaf, of integers. -/
set_option linter.unusedVariables false
set_option linter.unusedSimpArgs false
set_option linter.unnecessarySimpa false
set_option maxRecDepth 100000
namespace Go.Proofs.YthonbfojpbfmgaaGreatDoor
open Go.RowKit

end Go.Proofs.YthonbfojpbfmgaaGreatDoor

/- Package kernel: whether a test holds for an integer. -/
set_option linter.unusedVariables false
set_option linter.unusedSimpArgs false
set_option linter.unnecessarySimpa false
set_option maxRecDepth 100000
namespace Go.Proofs.YthonbfojpbfmgaaGreatDoor
open Go.RowKit

theorem ordP_I (v l : Int) : ordP (pI v) (pI l) = if v < l then -1 else if l < v then 1 else 0 := by
  unfold ordP pI
  simp only [ordS_refl0]
theorem standsS_I (op : Int) (v l : Int) : standsS op (ordP (pI v) (pI l)) =
    (if op = 1 then decide (v = l) else if op = 2 then decide (v ≠ l) else if op = 3 then decide (v < l) else if op = 4 then decide (v ≤ l) else if op = 5 then decide (l < v) else decide (op = 6) && decide (l ≤ v)) := by
  rw [ordP_I]
  unfold standsS
  by_cases h1 : v < l
  · rw [if_pos h1]
    have h2 : ¬ v = l := by omega
    have h3 : v ≤ l := by omega
    have h4 : ¬ l < v := by omega
    have h5 : ¬ l ≤ v := by omega
    simp [h1, h2, h3, h4, h5]
  · rw [if_neg h1]
    by_cases h2 : l < v
    · rw [if_pos h2]
      have h3 : ¬ v = l := by omega
      have h4 : ¬ v ≤ l := by omega
      have h5 : l ≤ v := by omega
      simp [h1, h2, h3, h4, h5]
    · rw [if_neg h2]
      obtain rfl : v = l := by omega
      simp
theorem leafT_one (op : Int) (v l : Int) (h : 1 ≤ op ∧ op ≤ 6) : leafT op ([l].map pI) (pI v) = standsS op (ordP (pI v) (pI l)) := by
  unfold leafT
  rw [if_neg (by omega), if_neg (by omega)]; rfl
theorem leafT_in (v : Int) (ls : List Int) : leafT 7 (ls.map pI) (pI v) = decide (v ∈ ls) := by
  unfold leafT
  rw [if_pos rfl, Bool.eq_iff_iff, List.any_eq_true, decide_eq_true_eq]
  constructor
  · rintro ⟨x, h1, h2⟩
    obtain ⟨y, hy, rfl⟩ := List.mem_map.1 h1
    rw [eqP_pI, decide_eq_true_eq] at h2
    rw [h2]; exact hy
  · intro h
    exact ⟨pI v, List.mem_map.2 ⟨v, h, rfl⟩, by rw [eqP_pI]; simp⟩
theorem leafT_two (v a b : Int) : leafT 8 ([a, b].map pI) (pI v) = (decide (a ≤ v) && decide (v ≤ b)) := by
  unfold leafT
  rw [if_neg (by decide), if_pos rfl]
  show (decide (0 ≤ ordP (pI v) (pI a)) && decide (ordP (pI v) (pI b) ≤ 0)) = _
  rw [ordP_I, ordP_I]
  congr 1
  · rw [decide_eq_decide]
    by_cases h1 : v < a
    · rw [if_pos h1]; omega
    · rw [if_neg h1]
      by_cases h2 : a < v
      · rw [if_pos h2]; omega
      · rw [if_neg h2]; omega
  · rw [decide_eq_decide]
    by_cases h1 : v < b
    · rw [if_pos h1]; omega
    · rw [if_neg h1]
      by_cases h2 : b < v
      · rw [if_pos h2]; omega
      · rw [if_neg h2]; omega
theorem up_I' {D : List Int} (h : D.Pairwise (· < ·)) (a b : Nat) : a < b → b < D.length → D.getD a 0 < D.getD b 0 := by
  intro h1 h2
  have := List.pairwise_iff_getElem.1 h a b (by omega) h2 h1
  simpa [List.getD, List.getElem?_eq_getElem h2, List.getElem?_eq_getElem (show a < D.length by omega)] using this
set_option maxHeartbeats 8000000 in
theorem holdsI_any (op : Int) (lits : List Int) (lv : Value) (v : Int) (w : World) (hl : Rd w lv lits.length 1 (i64s lits)) (hok : litsOk op lits.length) (hup : op = 7 → lits.Pairwise (· < ·)) (hll : lits.length ≤ 1048576) :
    Calls Tryz.prog 160 #[.agg #[.int .i64 op, lv], .int .i64 v] w fun e w' => e = .returned (.bool (leafT op (lits.map pI) (pI v))) ∧ Below w.heap.size w w' := by
  obtain ⟨ho1, ho2, ho3, ho4⟩ := hok
  have HL := hid hl
  obtain ⟨A, c, rfl, _, _, _⟩ := hl.form
  have HB0 := hid ((brefl w).alloc (Nat.le_refl _) (.cells #[.int .i64 op, .slice A lits.length c] 117))
  have HRT : Hid (Row (w.alloc (.cells #[.int .i64 op, .slice A lits.length c] 117)) w.heap.size 117 [.int .i64 op, .slice A lits.length c]) := hid (by unfold Row; rw [heap_alloc_new])
  clear hl
  have hcase : op ≤ 6 ∨ op = 7 ∨ op = 8 := by omega
  rcases hcase with h6 | rfl | rfl
  · obtain ⟨l0, rfl⟩ : ∃ l0, lits = [l0] := by
      have := ho3 h6
      match lits, this with
      | [x], _ => exact ⟨x, rfl⟩
    rw [leafT_one op v l0 ⟨ho1, h6⟩, standsS_I]
    have hop : op = 1 ∨ op = 2 ∨ op = 3 ∨ op = 4 ∨ op = 5 ∨ op = 6 := by omega
    clear ho1 ho2 ho3 ho4 h6 hup hll
    obtain ⟨b, o, rfl, hs⟩ := (HL.out.mono HB0.out).atI (by simp)
    have c0 := hs 0 (by simp)
    simp only [List.getD_cons_zero, Nat.add_zero] at c0
    simp only [List.length_singleton] at HB0 HRT c0 ⊢
    clear hs HL
    rcases hop with rfl | rfl | rfl | rfl | rfl | rfl
    · go_enter Tryz.func160, Tryz.ntmps160
      go_upto_region 1 with fail
      generalize w.alloc (.cells #[.int .i64 1, .slice (some ⟨b, o, none⟩) 1 c] 117) = w0 at *
      obtain ⟨k0, k1⟩ := cellP HRT.out
      go_wp2_with fail
      all_goals go_ret
      all_goals exact ⟨ret_bool (by first | rfl | simp), HB0.out⟩
    · go_enter Tryz.func160, Tryz.ntmps160
      go_upto_region 1 with fail
      generalize w.alloc (.cells #[.int .i64 2, .slice (some ⟨b, o, none⟩) 1 c] 117) = w0 at *
      obtain ⟨k0, k1⟩ := cellP HRT.out
      go_wp2_with fail
      all_goals go_ret
      all_goals exact ⟨ret_bool (by first | rfl | simp), HB0.out⟩
    · go_enter Tryz.func160, Tryz.ntmps160
      go_upto_region 1 with fail
      generalize w.alloc (.cells #[.int .i64 3, .slice (some ⟨b, o, none⟩) 1 c] 117) = w0 at *
      obtain ⟨k0, k1⟩ := cellP HRT.out
      go_wp2_with fail
      all_goals go_ret
      all_goals exact ⟨ret_bool (by first | rfl | simp), HB0.out⟩
    · go_enter Tryz.func160, Tryz.ntmps160
      go_upto_region 1 with fail
      generalize w.alloc (.cells #[.int .i64 4, .slice (some ⟨b, o, none⟩) 1 c] 117) = w0 at *
      obtain ⟨k0, k1⟩ := cellP HRT.out
      go_wp2_with fail
      all_goals go_ret
      all_goals exact ⟨ret_bool (by first | rfl | simp), HB0.out⟩
    · go_enter Tryz.func160, Tryz.ntmps160
      go_upto_region 1 with fail
      generalize w.alloc (.cells #[.int .i64 5, .slice (some ⟨b, o, none⟩) 1 c] 117) = w0 at *
      obtain ⟨k0, k1⟩ := cellP HRT.out
      go_wp2_with fail
      all_goals go_ret
      all_goals exact ⟨ret_bool (by first | rfl | simp), HB0.out⟩
    · go_enter Tryz.func160, Tryz.ntmps160
      go_upto_region 1 with fail
      generalize w.alloc (.cells #[.int .i64 6, .slice (some ⟨b, o, none⟩) 1 c] 117) = w0 at *
      obtain ⟨k0, k1⟩ := cellP HRT.out
      go_wp2_with fail
      all_goals go_ret
      all_goals exact ⟨ret_bool (by first | rfl | simp), HB0.out⟩
  · have hp := hup rfl
    have HUP := hid (fun a b => up_I' hp a b)
    clear hup hp ho1 ho2 ho3 ho4
    rw [leafT_in]
    have HBS := hid (fun (w2 : World) (h : Below w.heap.size w w2) => BinarySearch64f_any (.slice A lits.length c) lits v w2 (HL.out.mono h) hll HUP.out)
    generalize decide (v ∈ lits) = fd at *
    generalize lits.length = n at *
    generalize firstGe lits v = fg at *
    go_enter Tryz.func160, Tryz.ntmps160
    go_upto_region 1 with fail
    generalize w.alloc (.cells #[.int .i64 7, .slice A n c] 117) = w0 at *
    obtain ⟨k0, k1⟩ := cellP HRT.out
    go_wp2_with (go_at_call 207; refine (HBS.out w0 HB0.out).mono ?_; rintro e w5 ⟨rfl, nn, hw5⟩; have HB5 : Hid (Below w0.heap.size w0 w5) := (hid (by rw [hw5]; exact bdrew (brefl w0) nn)); clear hw5 k0 k1)
    go_ret
    exact ⟨rfl, HB0.out.trans (HB5.out.mono HB0.out.size)⟩
  · obtain ⟨a, b2, rfl⟩ : ∃ a b2, lits = [a, b2] := by
      have := ho4 rfl
      match lits, this with
      | [x, y], _ => exact ⟨x, y, rfl⟩
    rw [leafT_two]
    clear ho1 ho2 ho3 ho4 hup hll
    obtain ⟨b, o, rfl, hs⟩ := (HL.out.mono HB0.out).atI (by simp)
    have c0 := hs 0 (by simp)
    have c1 := hs 1 (by simp)
    simp only [List.getD_cons_zero, List.getD_cons_succ, Nat.add_zero] at c0 c1
    have hl2 : [a, b2].length = 2 := rfl
    simp only [hl2] at HB0 HRT c0 c1 ⊢
    clear hs HL hl2
    by_cases h1 : a ≤ v
    · by_cases h2 : v ≤ b2
      all_goals (go_enter Tryz.func160, Tryz.ntmps160)
      · go_upto_region 1 with fail
        generalize w.alloc (.cells #[.int .i64 8, .slice (some ⟨b, o, none⟩) 2 c] 117) = w0 at *
        obtain ⟨k0, k1⟩ := cellP HRT.out
        go_wp2_with fail
        all_goals go_ret
        all_goals exact ⟨ret_bool (by simp [h1, h2]), HB0.out⟩
      · go_upto_region 1 with fail
        generalize w.alloc (.cells #[.int .i64 8, .slice (some ⟨b, o, none⟩) 2 c] 117) = w0 at *
        obtain ⟨k0, k1⟩ := cellP HRT.out
        go_wp2_with fail
        all_goals go_ret
        all_goals exact ⟨ret_bool (by simp [h1, h2]), HB0.out⟩
    · go_enter Tryz.func160, Tryz.ntmps160
      go_upto_region 1 with fail
      generalize w.alloc (.cells #[.int .i64 8, .slice (some ⟨b, o, none⟩) 2 c] 117) = w0 at *
      obtain ⟨k0, k1⟩ := cellP HRT.out
      go_wp2_with fail
      all_goals go_ret
      all_goals exact ⟨ret_bool (by simp; intro h; omega), HB0.out⟩
end Go.Proofs.YthonbfojpbfmgaaGreatDoor
