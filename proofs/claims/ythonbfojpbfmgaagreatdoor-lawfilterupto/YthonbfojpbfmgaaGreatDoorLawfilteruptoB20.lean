/- Package codec: numbers less a base, packed. -/
import Derived.Test.YthonbfojpbfmgaaGreatDoorLawfilteruptoB19
import Derived.Test.YthonbfojpbfmgaaGreatDoorLawfilteruptoB3
import Derived.Test.YthonbfojpbfmgaaGreatDoorLawfilteruptoB17
import Derived.Test.YthonbfojpbfmgaaGreatDoorLawfilteruptoB18
import Derived.Test.YthonbfojpbfmgaaGreatDoorLawfilteruptoB9
set_option linter.unusedVariables false
set_option linter.unusedSimpArgs false
set_option linter.unnecessarySimpa false
set_option maxRecDepth 100000
namespace Go.Proofs.YthonbfojpbfmgaaGreatDoor
open Go.RowKit

theorem take_mapd_snoc {α β : Type} (g : α → β) (xs : List α) (d : α) (j : Nat) (h : j < xs.length) : (xs.map g).take (j + 1) = (xs.map g).take j ++ [g (xs.getD j d)] := by
  rw [← List.map_take, ← List.map_take, take_snoc xs d j h, List.map_append, List.map_cons, List.map_nil]
end Go.Proofs.YthonbfojpbfmgaaGreatDoor

/- slices.BinarySearch over numbers of 64 bits. -/
set_option linter.unusedVariables false
set_option linter.unusedSimpArgs false
set_option linter.unnecessarySimpa false
set_option maxRecDepth 20000
namespace Go.Proofs.YthonbfojpbfmgaaGreatDoor
open Go.RowKit

theorem isNaNi64_any (x : Int) (w : World) : Calls Tryz.prog 239 #[.int .i64 x] w fun e w' => e = .returned (.bool false) ∧ w' = w := by
  have e1 : (x != x) = false := by simp
  go_enter Tryz.func239, Tryz.ntmps239
  go_wp2
  go_ret
  exact ⟨rfl, rfl⟩
theorem isNaNs64_any (x : Int) (w : World) : Calls Tryz.prog 235 #[.int .i64 x] w fun e w' => e = .returned (.bool false) ∧ w' = w := by
  have e1 : (x != x) = false := by simp
  go_enter Tryz.func235, Tryz.ntmps235
  go_wp2
  go_ret
  exact ⟨rfl, rfl⟩
theorem Less64_any (x y : Int) (w : World) : Calls Tryz.prog 215 #[.int .i64 x, .int .i64 y] w fun e w' => e = .returned (.bool (decide (x < y))) ∧ w' = w := by
  go_enter Tryz.func215, Tryz.ntmps215
  go_wp2_with (go_at_call 239; refine (isNaNi64_any _ _).mono ?_; rintro e w' ⟨rfl, rfl⟩)
  all_goals go_ret
  all_goals exact ⟨rfl, rfl⟩

set_option maxHeartbeats 2000000 in
theorem BinarySearch64f_any (v : Value) (es : List Int) (t : Int) (w : World) (hx : Rd w v es.length 1 (i64s es)) (hl : es.length ≤ 1048576) (hup : ∀ a b, a < b → b < es.length → es.getD a 0 < es.getD b 0) :
    Calls Tryz.prog 207 #[v, .int .i64 t] w fun e w' => e = .returned (.tuple #[.int .i64 (firstGe es t : Nat), .bool (decide (t ∈ es))]) ∧ ∃ n, w' = w.drewN n := by
  obtain ⟨A, ca, rfl, hlc, hcm, hA⟩ := hx.form
  have HX := hid hx
  have HUP := hid hup
  clear hx hup
  go_enter Tryz.func207, Tryz.ntmps207
  go_wp2
  go_loop [7, 8] (fun u x => ∃ i j : Nat, i ≤ j ∧ j ≤ es.length ∧ u = .int .i64 i ∧ x = .int .i64 j ∧ (∀ a, a < i → es.getD a 0 < t) ∧ (∀ a, j ≤ a → a < es.length → t ≤ es.getD a 0)) (fun u x => (intOf x).toNat - (intOf u).toNat)
  case atStart => exact ⟨0, es.length, by omega, by omega, rfl, rfl, fun a h => by omega, fun a h1 h2 => by omega⟩
  case round =>
    obtain ⟨i, j, hij, hj, rfl, rfl, h1, h2⟩ := hrel
    have H1 := hid h1
    have H2 := hid h2
    clear h1 h2
    by_cases hlt : i < j
    · obtain ⟨b, o, rfl, hs⟩ := hA (by omega)
      obtain ⟨m, hm⟩ : ∃ m, (i + j) / 2 = m := ⟨_, rfl⟩
      have hm' : ((i : Int) + (j : Int)) / 2 = (m : Int) := by omega
      have hml : m < es.length := by omega
      have c1 := hs.int m hml
      have him : i ≤ m := by omega
      have hmj : m < j := by omega
      have HLT : Hid (es.getD m 0 < t → ∀ a, a < m + 1 → es.getD a 0 < t) := by
        intro h a ha
        by_cases ham : a = m
        · subst ham; exact h
        · have := HUP.out a m (by omega) hml; omega
      have HGE : Hid (t ≤ es.getD m 0 → ∀ a, m ≤ a → a < es.length → t ≤ es.getD a 0) := by
        intro h a ha1 ha2
        by_cases ham : a = m
        · subst ham; exact h
        · have := HUP.out m a (by omega) ha2; omega
      clear hs hA hm
      generalize es.getD m 0 = x at *
      go_wp2_with (go_at_call 215; refine (Less64_any _ _ _).mono ?_; rintro e w' ⟨rfl, hw⟩; subst hw)
      · go_round
        case rel => exact ⟨m + 1, j, by omega, by omega, by go_num, rfl, HLT.out (by assumption), H2.out⟩
        case measure => simp [intOf]; omega
      · go_round
        case rel => exact ⟨i, m, by omega, by omega, rfl, rfl, H1.out, HGE.out (by omega)⟩
        case measure => simp [intOf]; omega
    · have hf : firstGe es t = i := firstGe_eq es t i (by omega) H1.out (fun h => H2.out i (by omega) h)
      have HF := hid hf
      clear hf
      by_cases hie : i < es.length
      · obtain ⟨b, o, rfl, hs⟩ := hA (by omega)
        have c1 := hs.int i hie
        have HMEM : Hid (es.getD i 0 = t → t ∈ es) := hid (fun h => by
          rw [← h]; simp [List.getD, List.getElem?_eq_getElem hie])
        have HNOT : Hid (es.getD i 0 ≠ t → ¬ t ∈ es) := hid (fun h hm => by
          obtain ⟨a, ha, hat⟩ := List.getElem_of_mem hm
          have hg : es.getD a 0 = t := by simp [List.getD, List.getElem?_eq_getElem ha, hat]
          by_cases h1 : a < i
          · have := H1.out a h1; omega
          · by_cases h2 : a = i
            · subst h2; exact h hg
            · have h3 := HUP.out i a (by omega) ha
              have h4 := H2.out i (by omega) hie
              omega)
        clear hs hA
        generalize es.getD i 0 = x at *
        by_cases hxt : x = t
        · have hd : decide (t ∈ es) = true := decide_eq_true (HMEM.out hxt)
          have HD := hid hd
          subst hxt
          clear hd HMEM HNOT
          go_wp2_with (go_at_call 235; refine (isNaNs64_any _ _).mono ?_; rintro e w' ⟨rfl, hw⟩; subst hw)
          all_goals go_ret2
          all_goals exact ⟨by rw [HF.out, HD.out]; rfl, 0, rfl⟩
        · have hd : decide (t ∈ es) = false := decide_eq_false (HNOT.out hxt)
          have HD := hid hd
          have hb : (x == t) = false := by simpa using hxt
          clear hd HMEM HNOT hxt
          go_wp2_with (go_at_call 235; refine (isNaNs64_any _ _).mono ?_; rintro e w' ⟨rfl, hw⟩; subst hw)
          all_goals go_ret2
          all_goals exact ⟨by rw [HF.out, HD.out]; rfl, 0, rfl⟩
      · have hd : decide (t ∈ es) = false := decide_eq_false (fun hm => by
          obtain ⟨a, ha, hat⟩ := List.getElem_of_mem hm
          have hg : es.getD a 0 = t := by simp [List.getD, List.getElem?_eq_getElem ha, hat]
          have := H1.out a (by omega); omega)
        have HD := hid hd
        clear hd
        go_wp2
        all_goals go_ret2
        all_goals exact ⟨by rw [HF.out, HD.out]; rfl, 0, rfl⟩
end Go.Proofs.YthonbfojpbfmgaaGreatDoor

/- Package kernel: the test of a leaf, of integers. -/
set_option linter.unusedVariables false
set_option linter.unusedSimpArgs false
set_option linter.unnecessarySimpa false
set_option maxRecDepth 100000
namespace Go.Proofs.YthonbfojpbfmgaaGreatDoor
open Go.RowKit

set_option maxHeartbeats 8000000 in
theorem testOfI_any (op col : Int) (av : Value) (args : List C3) (w : World) (hx : Rd w av args.length 3 (cells3 args)) (hl : args.length ≤ 1048576) :
    Calls Tryz.prog 58 #[.iface 68 (.agg #[]), .agg #[.int .i64 op, .int .i64 col, av]] w fun e w' => ∃ lv, e = .returned (.agg #[.int .i64 op, lv]) ∧
      w'.ownsRow w.heap.size 2 1 lv (litsI op (args.map C3.i)).length (i64s (litsI op (args.map C3.i))) ∧ Below w.heap.size w w' := by
  have HX := hid hx
  obtain ⟨A1, ca, rfl, _, _, _⟩ := hx.form
  clear hx
  have HB0 := hid (((brefl w).alloc (Nat.le_refl _) (.cells #[.int .i64 op, .int .i64 col, .slice A1 args.length ca] 25)).alloc (by simp) (.cells #[.int .i64 0, .slice none 0 0] 117))
  have HRN : Hid (Row ((w.alloc (.cells #[.int .i64 op, .int .i64 col, .slice A1 args.length ca] 25)).alloc (.cells #[.int .i64 0, .slice none 0 0] 117)) w.heap.size 25 [.int .i64 op, .int .i64 col, .slice A1 args.length ca]) := hid (by
    have h1 : Row (w.alloc (.cells #[.int .i64 op, .int .i64 col, .slice A1 args.length ca] 25)) w.heap.size 25 [.int .i64 op, .int .i64 col, .slice A1 args.length ca] := by unfold Row; rw [heap_alloc_new]
    exact h1.mono ((brefl _).alloc (Nat.le_refl _) _))
  have HRR : Hid (Row ((w.alloc (.cells #[.int .i64 op, .int .i64 col, .slice A1 args.length ca] 25)).alloc (.cells #[.int .i64 0, .slice none 0 0] 117)) (w.heap.size + 1) 117 [.int .i64 0, .slice none 0 0]) := hid (by
    have e : w.heap.size + 1 = (w.alloc (.cells #[.int .i64 op, .int .i64 col, .slice A1 args.length ca] 25)).heap.size := by simp
    rw [e]; unfold Row; rw [heap_alloc_new])
  have HSZ : Hid (((w.alloc (.cells #[.int .i64 op, .int .i64 col, .slice A1 args.length ca] 25)).alloc (.cells #[.int .i64 0, .slice none 0 0] 117)).heap.size = w.heap.size + 2) := hid (by simp)
  obtain ⟨n, hn⟩ : ∃ n, args.length = n := ⟨_, rfl⟩
  have HN := hid hn
  simp only [hn] at HX HB0 HRN HRR HSZ hl ⊢
  clear hn
  have hlm : ((args.map C3.i).mergeSort fun x y => decide (x ≤ y)).length = n := by rw [List.length_mergeSort, List.length_map]; exact HN.out
  have HSO := hid (fun (w1 : World) (v : Value) (B : Nat) (h : w1.ownsRow B 2 1 v n (i64s (args.map C3.i))) (h2 : B ≤ w1.heap.size) => SortI_any B (args.map C3.i) v w1 (by rw [List.length_map, HN.out]; exact h) h2 (by rw [List.length_map, HN.out]; exact hl))
  have HCO : Hid (∀ (w1 : World) (v : Value) (B : Nat), w1.ownsRow B 2 1 v n (i64s ((args.map C3.i).mergeSort fun x y => decide (x ≤ y))) → B ≤ w1.heap.size → Calls Tryz.prog 110 #[v] w1 fun e w' => ∃ v', e = .returned v' ∧ w'.ownsRow B 2 1 v' (dictI (args.map C3.i)).length (i64s (dictI (args.map C3.i))) ∧ Below B w1 w') := hid (fun w1 v B h h2 => CompactI_any B _ v w1 (by rw [hlm]; exact h) h2 (by omega))
  rw [hlm] at HSO
  clear hlm
  generalize (args.map C3.i).mergeSort (fun x y => decide (x ≤ y)) = ms at *
  have HTK := hid (fun (j : Nat) (h : j < args.length) => take_mapd_snoc C3.i args C3.df j h)
  have HLV : Hid ((args.map C3.i).length = n) := hid (by rw [List.length_map]; exact HN.out)
  have HR7 : Hid (op = 7 → litsI op (args.map C3.i) = dictI (args.map C3.i)) := hid (fun h => by unfold litsI; rw [if_pos h])
  have HR8 : Hid (op ≠ 7 → litsI op (args.map C3.i) = args.map C3.i) := hid (fun h => by unfold litsI; rw [if_neg h])
  generalize litsI op (args.map C3.i) = R at *
  generalize dictI (args.map C3.i) = D at *
  go_enter Tryz.func58, Tryz.ntmps58
  go_upto_region 1 with fail
  generalize (w.alloc (.cells #[.int .i64 op, .int .i64 col, .slice A1 n ca] 25)).alloc (.cells #[.int .i64 0, .slice none 0 0] 117) = w0 at *
  obtain ⟨k0, k1, k2⟩ := cell3 HRN.out
  go_upto_region 2 with (refine upon_make 2 (.int .i64 0) 8 Tryz.underlying51 Tryz.info64 rfl n (by omega) (by omega) (by omega) (by unfold maxLen; omega) ?_; intro w2 hrow2 hb2 hsz2)
  obtain ⟨q2, hq2⟩ : ∃ q2, w0.heap.size = q2 := ⟨_, rfl⟩
  have HQ2 := hid hq2
  rw [hq2] at hrow2 hb2 hsz2 HSZ ⊢
  have hq0 : w.heap.size + 2 = q2 := HSZ.out.symm
  have HROW2 := hid hrow2
  have HB2 := hid hb2
  have HX0 := hid (HX.out.mono HB0.out)
  have HRN2 := hid (HRN.out.below hb2 (by omega))
  clear hrow2 hb2 hq2 k0 k1 k2 HX
  obtain ⟨k0, k1, k2⟩ := cell3 HRN2.out
  clear HRN2
  go_wp2_with fail
  clear k0 k1 k2
  go_loopw [15] (fun i wr => ∃ j : Nat, j ≤ n ∧ i = .int .i64 j ∧ Hid (Row wr q2 2 (i64s ((args.map C3.i).take j) ++ List.replicate (n - j) (.int .i64 0))) ∧ Hid (Below q2 w0 wr) ∧ Hid (q2 < wr.heap.size)) (fun i _ => n - (intOf i).toNat)
  case atStart => exact ⟨0, by omega, rfl, hid (by simpa [i64s] using HROW2.out), HB2, hid (by omega)⟩
  case round =>
    obtain ⟨j, hj, rfl, HR, HB, HZ⟩ := hrel
    by_cases hlt : j < n
    · obtain ⟨b, o, rfl, hcells⟩ := (HX0.out.mono (by rw [HQ2.out]; exact HB.out)).at3 (by omega)
      obtain ⟨l0, l1, l2⟩ := hcells j (by rw [HN.out]; exact hlt)
      have HT := hid (HTK.out j (by rw [HN.out]; exact hlt))
      clear hcells
      generalize args.getD j C3.df = X at *
      obtain ⟨xn, xi, xs'⟩ := X
      simp only at l0 l1 l2 HT
      have HBA := hid ((brefl wr).alloc (Nat.le_refl _) (.cells #[.bool xn, .int .i64 xi, .string xs'] 42))
      have HRW : Hid (Row (wr.alloc (.cells #[.bool xn, .int .i64 xi, .string xs'] 42)) wr.heap.size 42 [.bool xn, .int .i64 xi, .string xs']) := hid (by unfold Row; rw [heap_alloc_new])
      have HR4 := hid (HR.out.mono HBA.out)
      have HB4 := hid (HB.out.trans (HBA.out.mono (Nat.le_of_lt HZ.out)))
      have HZ4 := hid (Nat.lt_of_lt_of_le HZ.out HBA.out.size)
      go_upto_region 5 with fail
      generalize wr.alloc (.cells #[.bool xn, .int .i64 xi, .string xs'] 42) = w4 at *
      have c0 : w4.cell? ⟨wr.heap.size, 0, none⟩ = some (.bool xn) := by rw [HRW.out.cell]; rfl
      have c1 : w4.cell? ⟨wr.heap.size, 1, none⟩ = some (.int .i64 xi) := by rw [HRW.out.cell]; rfl
      have c2 : w4.cell? ⟨wr.heap.size, 2, none⟩ = some (.string xs') := by rw [HRW.out.cell]; rfl
      generalize wr.heap.size = qq at *
      clear l0 l1 l2
      have hmv := m_Value_I
      go_wp2_with (go_at_call 273; refine (ValueGen_I xn xi xs' _).mono ?_; rintro e w5 ⟨rfl, hb5⟩; have HR5 := hid (HR4.out.mono hb5); have HB5 := hid (HB4.out.trans (hb5.mono (Nat.le_of_lt HZ4.out))); have HZ5 := hid (Nat.lt_of_lt_of_le HZ4.out hb5.size); clear hb5 hmv c0 c1 c2; have hcell : w5.cell? ⟨q2, j, none⟩ = some (.int .i64 0) := (by rw [HR5.out.cell]; exact get_fill _ _ _ _ (by simp [i64s, List.length_take, HN.out]; omega) (by omega)); have hfr := HR5.out.frozen j)
      go_roundw
      case rel =>
        refine ⟨j + 1, by omega, by go_num, hid ?_, hid (below_set HB5.out _ _ _ (Nat.le_refl _)), hid (by simpa [World.setCell] using HZ5.out)⟩
        have hss := HR5.out.set j (.int .i64 xi)
        rw [set_fill _ _ _ _ _ (by simp [i64s, List.length_take, HN.out]; omega) (by omega)] at hss
        rw [HT.out, i64s_append, ← Nat.sub_sub n j 1]
        exact hss
      case measure => simp [intOf]; omega
    · obtain rfl : j = n := by omega
      have htk : (args.map C3.i).take j = args.map C3.i := by rw [← HLV.out, List.take_length]
      rw [htk, Nat.sub_self, List.replicate_zero, List.append_nil] at HR
      have HOW := hid (HR.out.owns (B := q2) (n := j) (Nat.le_refl _) (by rw [i64s_length, HLV.out]) (by unfold maxLen; omega))
      have HRNw := hid (HRN.out.below HB.out (by omega))
      have HRRw := hid (HRR.out.below HB.out (by omega))
      have HBW := hid (HB0.out.trans (HB.out.mono (by omega)))
      have hzz := HZ.out
      clear HTK HR HROW2 HB2 HB HRN HRR HX0 htk hsz2
      obtain ⟨k0, k1, k2⟩ := cell3 HRNw.out
      generalize wr = w5 at *
      by_cases h7 : op = 7
      · have hrd := HR7.out h7
        subst hrd
        clear HR7 HR8
        subst h7
        go_upto_region 8 with fail
        clear k0 k1 k2
        go_upto_region 10 with (first
          | (go_at_call 109; refine (HSO.out w5 _ q2 HOW.out (Nat.le_of_lt hzz)).mono ?_; rintro e w6 ⟨rfl, h1, h2⟩; have K1 := hid h1; have K2 := hid h2; clear h1 h2)
          | (go_at_call 110; refine (HCO.out w6 _ q2 K1.out (Nat.le_trans (Nat.le_of_lt hzz) K2.out.size)).mono ?_; rintro e w7 ⟨v7, rfl, h1, h2⟩; obtain ⟨A7, c7, rfl, _⟩ := owns_form h1; have L1 := hid h1; have L2 := hid (K2.out.trans h2); clear h1 h2))
        have HRN7 := hid (HRNw.out.below L2.out (by omega))
        have HRR7 := hid (HRRw.out.below L2.out (by omega))
        have HB7 := hid (HBW.out.trans (L2.out.mono (by omega)))
        obtain ⟨k0, k1, k2⟩ := cell3 HRN7.out
        obtain ⟨z0, z1⟩ := cellP HRR7.out
        have f0 := HRR7.out.frozen 0
        have f1 := HRR7.out.frozen 1
        go_wp2_with fail
        clear k0 k1 k2 z0 z1 f0 f1
        have HCF := hid (((Chg.refl (w.heap.size + 1) (w.heap.size + 1) w7).setCell (w.heap.size + 1) 0 (.int .i64 7) (.inl rfl)).setCell (w.heap.size + 1) 1 (.slice A7 R.length c7) (.inl rfl))
        have HRF := hid ((HRR7.out.set 0 (.int .i64 7)).set 1 (.slice A7 R.length c7))
        have HBF := hid (below_set (below_set HB7.out (w.heap.size + 1) 0 (.int .i64 7) (by omega)) (w.heap.size + 1) 1 (.slice A7 R.length c7) (by omega))
        have HOF := hid (owns_low (B' := w.heap.size) (owns_chg L1.out HCF.out (by omega) (by omega)) (by omega))
        generalize (w7.setCell ⟨w.heap.size + 1, 0, none⟩ (.int .i64 7)).setCell ⟨w.heap.size + 1, 1, none⟩ (.slice A7 R.length c7) = wF at *
        have y0 : wF.cell? ⟨w.heap.size + 1, 0, none⟩ = some (.int .i64 7) := by rw [HRF.out.cell]; rfl
        have y1 : wF.cell? ⟨w.heap.size + 1, 1, none⟩ = some (.slice A7 R.length c7) := by rw [HRF.out.cell]; rfl
        refine bodyPost_ret (v := .agg #[.int .i64 7, (.slice A7 R.length c7)]) ?_ rfl ⟨_, rfl, HOF.out, HBF.out⟩
        simp [results, Tryz.results58, go_sem, y0, y1]
      · have hrd := HR8.out h7
        subst hrd
        clear HR7 HR8
        have h7b : (op == 7) = false := by simpa using h7
        obtain ⟨z0, z1⟩ := cellP HRRw.out
        have f0 := HRRw.out.frozen 0
        have f1 := HRRw.out.frozen 1
        go_wp2_with fail
        clear k0 k1 k2 z0 z1 f0 f1
        have HOW2 : Hid (w5.ownsRow q2 2 1 (.slice (some ⟨q2, 0, none⟩) j j) (args.map C3.i).length (i64s (args.map C3.i))) := hid (by rw [HLV.out]; exact HOW.out)
        have HCF := hid (((Chg.refl (w.heap.size + 1) (w.heap.size + 1) w5).setCell (w.heap.size + 1) 0 (.int .i64 op) (.inl rfl)).setCell (w.heap.size + 1) 1 (.slice (some ⟨q2, 0, none⟩) j j) (.inl rfl))
        have HRF := hid ((HRRw.out.set 0 (.int .i64 op)).set 1 (.slice (some ⟨q2, 0, none⟩) j j))
        have HBF := hid (below_set (below_set HBW.out (w.heap.size + 1) 0 (.int .i64 op) (by omega)) (w.heap.size + 1) 1 (.slice (some ⟨q2, 0, none⟩) j j) (by omega))
        have HOF := hid (owns_low (B' := w.heap.size) (owns_chg HOW2.out HCF.out (by omega) (by omega)) (by omega))
        generalize (w5.setCell ⟨w.heap.size + 1, 0, none⟩ (.int .i64 op)).setCell ⟨w.heap.size + 1, 1, none⟩ (.slice (some ⟨q2, 0, none⟩) j j) = wF at *
        have y0 : wF.cell? ⟨w.heap.size + 1, 0, none⟩ = some (.int .i64 op) := by rw [HRF.out.cell]; rfl
        have y1 : wF.cell? ⟨w.heap.size + 1, 1, none⟩ = some (.slice (some ⟨q2, 0, none⟩) j j) := by rw [HRF.out.cell]; rfl
        refine bodyPost_ret (v := .agg #[.int .i64 op, (.slice (some ⟨q2, 0, none⟩) j j)]) ?_ rfl ⟨_, rfl, HOF.out, HBF.out⟩
        simp [results, Tryz.results58, go_sem, y0, y1]
end Go.Proofs.YthonbfojpbfmgaaGreatDoor

/- Package kernel: whether a test holds for an integer. -/
set_option linter.unusedVariables false
set_option linter.unusedSimpArgs false
set_option linter.unnecessarySimpa false
set_option maxRecDepth 100000
namespace Go.Proofs.YthonbfojpbfmgaaGreatDoor
open Go.RowKit

theorem ordP_I (v l : Int) : ordP (pI v) (pI l) = if v < l then -1 else if l < v then 1 else 0 := by
  unfold ordP pI
  simp only [ordS_refl0]
theorem standsS_I (op : Int) (v l : Int) : standsS op (ordP (pI v) (pI l)) =
    (if op = 1 then decide (v = l) else if op = 2 then decide (v ≠ l) else if op = 3 then decide (v < l) else if op = 4 then decide (v ≤ l) else if op = 5 then decide (l < v) else decide (op = 6) && decide (l ≤ v)) := by
  rw [ordP_I]
  unfold standsS
  by_cases h1 : v < l
  · rw [if_pos h1]
    have h2 : ¬ v = l := by omega
    have h3 : v ≤ l := by omega
    have h4 : ¬ l < v := by omega
    have h5 : ¬ l ≤ v := by omega
    simp [h1, h2, h3, h4, h5]
  · rw [if_neg h1]
    by_cases h2 : l < v
    · rw [if_pos h2]
      have h3 : ¬ v = l := by omega
      have h4 : ¬ v ≤ l := by omega
      have h5 : l ≤ v := by omega
      simp [h1, h2, h3, h4, h5]
    · rw [if_neg h2]
      obtain rfl : v = l := by omega
      simp
theorem leafT_one (op : Int) (v l : Int) (h : 1 ≤ op ∧ op ≤ 6) : leafT op ([l].map pI) (pI v) = standsS op (ordP (pI v) (pI l)) := by
  unfold leafT
  rw [if_neg (by omega), if_neg (by omega)]; rfl
theorem leafT_in (v : Int) (ls : List Int) : leafT 7 (ls.map pI) (pI v) = decide (v ∈ ls) := by
  unfold leafT
  rw [if_pos rfl, Bool.eq_iff_iff, List.any_eq_true, decide_eq_true_eq]
  constructor
  · rintro ⟨x, h1, h2⟩
    obtain ⟨y, hy, rfl⟩ := List.mem_map.1 h1
    rw [eqP_pI, decide_eq_true_eq] at h2
    rw [h2]; exact hy
  · intro h
    exact ⟨pI v, List.mem_map.2 ⟨v, h, rfl⟩, by rw [eqP_pI]; simp⟩
theorem leafT_two (v a b : Int) : leafT 8 ([a, b].map pI) (pI v) = (decide (a ≤ v) && decide (v ≤ b)) := by
  unfold leafT
  rw [if_neg (by decide), if_pos rfl]
  show (decide (0 ≤ ordP (pI v) (pI a)) && decide (ordP (pI v) (pI b) ≤ 0)) = _
  rw [ordP_I, ordP_I]
  congr 1
  · rw [decide_eq_decide]
    by_cases h1 : v < a
    · rw [if_pos h1]; omega
    · rw [if_neg h1]
      by_cases h2 : a < v
      · rw [if_pos h2]; omega
      · rw [if_neg h2]; omega
  · rw [decide_eq_decide]
    by_cases h1 : v < b
    · rw [if_pos h1]; omega
    · rw [if_neg h1]
      by_cases h2 : b < v
      · rw [if_pos h2]; omega
      · rw [if_neg h2]; omega
theorem up_I' {D : List Int} (h : D.Pairwise (· < ·)) (a b : Nat) : a < b → b < D.length → D.getD a 0 < D.getD b 0 := by
  intro h1 h2
  have := List.pairwise_iff_getElem.1 h a b (by omega) h2 h1
  simpa [List.getD, List.getElem?_eq_getElem h2, List.getElem?_eq_getElem (show a < D.length by omega)] using this
set_option maxHeartbeats 8000000 in
theorem holdsI_any (op : Int) (lits : List Int) (lv : Value) (v : Int) (w : World) (hl : Rd w lv lits.length 1 (i64s lits)) (hok : litsOk op lits.length) (hup : op = 7 → lits.Pairwise (· < ·)) (hll : lits.length ≤ 1048576) :
    Calls Tryz.prog 160 #[.agg #[.int .i64 op, lv], .int .i64 v] w fun e w' => e = .returned (.bool (leafT op (lits.map pI) (pI v))) ∧ Below w.heap.size w w' := by
  obtain ⟨ho1, ho2, ho3, ho4⟩ := hok
  have HL := hid hl
  obtain ⟨A, c, rfl, _, _, _⟩ := hl.form
  have HB0 := hid ((brefl w).alloc (Nat.le_refl _) (.cells #[.int .i64 op, .slice A lits.length c] 117))
  have HRT : Hid (Row (w.alloc (.cells #[.int .i64 op, .slice A lits.length c] 117)) w.heap.size 117 [.int .i64 op, .slice A lits.length c]) := hid (by unfold Row; rw [heap_alloc_new])
  clear hl
  have hcase : op ≤ 6 ∨ op = 7 ∨ op = 8 := by omega
  rcases hcase with h6 | rfl | rfl
  · obtain ⟨l0, rfl⟩ : ∃ l0, lits = [l0] := by
      have := ho3 h6
      match lits, this with
      | [x], _ => exact ⟨x, rfl⟩
    rw [leafT_one op v l0 ⟨ho1, h6⟩, standsS_I]
    have hop : op = 1 ∨ op = 2 ∨ op = 3 ∨ op = 4 ∨ op = 5 ∨ op = 6 := by omega
    clear ho1 ho2 ho3 ho4 h6 hup hll
    obtain ⟨b, o, rfl, hs⟩ := (HL.out.mono HB0.out).atI (by simp)
    have c0 := hs 0 (by simp)
    simp only [List.getD_cons_zero, Nat.add_zero] at c0
    simp only [List.length_singleton] at HB0 HRT c0 ⊢
    clear hs HL
    rcases hop with rfl | rfl | rfl | rfl | rfl | rfl
    · go_enter Tryz.func160, Tryz.ntmps160
      go_upto_region 1 with fail
      generalize w.alloc (.cells #[.int .i64 1, .slice (some ⟨b, o, none⟩) 1 c] 117) = w0 at *
      obtain ⟨k0, k1⟩ := cellP HRT.out
      go_wp2_with fail
      all_goals go_ret
      all_goals exact ⟨ret_bool (by first | rfl | simp), HB0.out⟩
    · go_enter Tryz.func160, Tryz.ntmps160
      go_upto_region 1 with fail
      generalize w.alloc (.cells #[.int .i64 2, .slice (some ⟨b, o, none⟩) 1 c] 117) = w0 at *
      obtain ⟨k0, k1⟩ := cellP HRT.out
      go_wp2_with fail
      all_goals go_ret
      all_goals exact ⟨ret_bool (by first | rfl | simp), HB0.out⟩
    · go_enter Tryz.func160, Tryz.ntmps160
      go_upto_region 1 with fail
      generalize w.alloc (.cells #[.int .i64 3, .slice (some ⟨b, o, none⟩) 1 c] 117) = w0 at *
      obtain ⟨k0, k1⟩ := cellP HRT.out
      go_wp2_with fail
      all_goals go_ret
      all_goals exact ⟨ret_bool (by first | rfl | simp), HB0.out⟩
    · go_enter Tryz.func160, Tryz.ntmps160
      go_upto_region 1 with fail
      generalize w.alloc (.cells #[.int .i64 4, .slice (some ⟨b, o, none⟩) 1 c] 117) = w0 at *
      obtain ⟨k0, k1⟩ := cellP HRT.out
      go_wp2_with fail
      all_goals go_ret
      all_goals exact ⟨ret_bool (by first | rfl | simp), HB0.out⟩
    · go_enter Tryz.func160, Tryz.ntmps160
      go_upto_region 1 with fail
      generalize w.alloc (.cells #[.int .i64 5, .slice (some ⟨b, o, none⟩) 1 c] 117) = w0 at *
      obtain ⟨k0, k1⟩ := cellP HRT.out
      go_wp2_with fail
      all_goals go_ret
      all_goals exact ⟨ret_bool (by first | rfl | simp), HB0.out⟩
    · go_enter Tryz.func160, Tryz.ntmps160
      go_upto_region 1 with fail
      generalize w.alloc (.cells #[.int .i64 6, .slice (some ⟨b, o, none⟩) 1 c] 117) = w0 at *
      obtain ⟨k0, k1⟩ := cellP HRT.out
      go_wp2_with fail
      all_goals go_ret
      all_goals exact ⟨ret_bool (by first | rfl | simp), HB0.out⟩
  · have hp := hup rfl
    have HUP := hid (fun a b => up_I' hp a b)
    clear hup hp ho1 ho2 ho3 ho4
    rw [leafT_in]
    have HBS := hid (fun (w2 : World) (h : Below w.heap.size w w2) => BinarySearch64f_any (.slice A lits.length c) lits v w2 (HL.out.mono h) hll HUP.out)
    generalize decide (v ∈ lits) = fd at *
    generalize lits.length = n at *
    generalize firstGe lits v = fg at *
    go_enter Tryz.func160, Tryz.ntmps160
    go_upto_region 1 with fail
    generalize w.alloc (.cells #[.int .i64 7, .slice A n c] 117) = w0 at *
    obtain ⟨k0, k1⟩ := cellP HRT.out
    go_wp2_with (go_at_call 207; refine (HBS.out w0 HB0.out).mono ?_; rintro e w5 ⟨rfl, nn, hw5⟩; have HB5 : Hid (Below w0.heap.size w0 w5) := (hid (by rw [hw5]; exact bdrew (brefl w0) nn)); clear hw5 k0 k1)
    go_ret
    exact ⟨rfl, HB0.out.trans (HB5.out.mono HB0.out.size)⟩
  · obtain ⟨a, b2, rfl⟩ : ∃ a b2, lits = [a, b2] := by
      have := ho4 rfl
      match lits, this with
      | [x, y], _ => exact ⟨x, y, rfl⟩
    rw [leafT_two]
    clear ho1 ho2 ho3 ho4 hup hll
    obtain ⟨b, o, rfl, hs⟩ := (HL.out.mono HB0.out).atI (by simp)
    have c0 := hs 0 (by simp)
    have c1 := hs 1 (by simp)
    simp only [List.getD_cons_zero, List.getD_cons_succ, Nat.add_zero] at c0 c1
    have hl2 : [a, b2].length = 2 := rfl
    simp only [hl2] at HB0 HRT c0 c1 ⊢
    clear hs HL hl2
    by_cases h1 : a ≤ v
    · by_cases h2 : v ≤ b2
      all_goals (go_enter Tryz.func160, Tryz.ntmps160)
      · go_upto_region 1 with fail
        generalize w.alloc (.cells #[.int .i64 8, .slice (some ⟨b, o, none⟩) 2 c] 117) = w0 at *
        obtain ⟨k0, k1⟩ := cellP HRT.out
        go_wp2_with fail
        all_goals go_ret
        all_goals exact ⟨ret_bool (by simp [h1, h2]), HB0.out⟩
      · go_upto_region 1 with fail
        generalize w.alloc (.cells #[.int .i64 8, .slice (some ⟨b, o, none⟩) 2 c] 117) = w0 at *
        obtain ⟨k0, k1⟩ := cellP HRT.out
        go_wp2_with fail
        all_goals go_ret
        all_goals exact ⟨ret_bool (by simp [h1, h2]), HB0.out⟩
    · go_enter Tryz.func160, Tryz.ntmps160
      go_upto_region 1 with fail
      generalize w.alloc (.cells #[.int .i64 8, .slice (some ⟨b, o, none⟩) 2 c] 117) = w0 at *
      obtain ⟨k0, k1⟩ := cellP HRT.out
      go_wp2_with fail
      all_goals go_ret
      all_goals exact ⟨ret_bool (by simp; intro h; omega), HB0.out⟩
end Go.Proofs.YthonbfojpbfmgaaGreatDoor

/- Package kernel: the hits of chunks that hold a list (of integers). -/
set_option linter.unusedVariables false
set_option linter.unusedSimpArgs false
set_option linter.unnecessarySimpa false
set_option maxRecDepth 100000
namespace Go.Proofs.YthonbfojpbfmgaaGreatDoor
open Go.RowKit

/-- a leaf's literals in memory -/
structure Lit_I (w : World) (op : Int) (lv : Value) (lits : List Int) : Prop where
  rd : Rd w lv lits.length 1 (i64s lits)
  ok : litsOk op lits.length
  up : op = 7 → lits.Pairwise (· < ·)
  le : lits.length ≤ 1048576
theorem Lit_I.mono {w w' : World} {op : Int} {lv : Value} {lits : List Int} (h : Lit_I w op lv lits) (hb : Below w.heap.size w w') : Lit_I w' op lv lits := ⟨h.rd.mono hb, h.ok, h.up, h.le⟩
theorem Lit_I.holds {w : World} {op : Int} {lv : Value} {lits : List Int} (h : Lit_I w op lv lits) (v : Int) :
    Calls Tryz.prog 160 #[.agg #[.int .i64 op, lv], .int .i64 v] w fun e w' => e = .returned (.bool (leafT op (lits.map pI) (pI v))) ∧ Below w.heap.size w w' :=
  holdsI_any op lits lv v w h.rd h.ok h.up h.le
theorem Rd.at_I {w : World} {D : Option Addr} {n m cd : Nat} {xs : List Int} (h : Rd w (.slice D n cd) m 1 (lstI xs)) (h0 : 0 < m) : ∃ b o, D = some ⟨b, o, none⟩ ∧
    ∀ k, k < xs.length → w.cell? ⟨b, o + k, none⟩ = some (.int .i64 (xs.getD k 0)) := Rd.atI h h0

set_option maxHeartbeats 8000000 in
theorem plainHits_I (w : World) (g : Nat) (rows : Int) (codec wd : Nat) (nulls : List Nat) (count : Nat) (list : List Int) (ends : List Nat) (base : Int) (lanes : List Nat) (op : Int) (lits : List Int) (lv : Value)
    (h : Ck_I w g rows codec wd nulls count list ends base lanes) (hcl : list.length = count) (hcn : count ≤ 65536) (hl : Lit_I w op lv lits) :
    Calls Tryz.prog 106 #[.pointer (some ⟨g, 0, none⟩), .agg #[.int .i64 op, lv]] w fun e w' => HitAns w w' e count (fun i => leafT op (lits.map pI) (pI (list.getD i 0))) := by
  obtain ⟨A, c, rfl, _, _, _⟩ := hl.rd.form
  have HL := hid hl
  have HC := hid h
  obtain ⟨nu, v5, ev, nv, bef, hr, h2, h3, h4, h5, h6⟩ := h.ex
  obtain ⟨A5, c5, rfl, _, _, _⟩ := h3.form
  rw [hcl] at hr h3
  have HROW := hid hr
  have HLS := hid h3
  have HCL := hid hcl
  clear h2 h3 h4 h5 h6 hr h hl hcl
  have HB0 := hid ((brefl w).alloc (Nat.le_refl _) (.cells #[.int .i64 op, .slice A lits.length c] 117))
  have HRT : Hid (Row (w.alloc (.cells #[.int .i64 op, .slice A lits.length c] 117)) w.heap.size 117 [.int .i64 op, .slice A lits.length c]) := hid (by unfold Row; rw [heap_alloc_new])
  have HSZ : Hid ((w.alloc (.cells #[.int .i64 op, .slice A lits.length c] 117)).heap.size = w.heap.size + 1) := hid (by simp)
  have HR0 := hid (HROW.out.mono HB0.out)
  have HLS0 := hid (HLS.out.mono HB0.out)
  have HL0 := hid (HL.out.mono HB0.out)
  have HST := hid (BitsTo.start count (fun i => leafT op (lits.map pI) (pI (list.getD i 0))))
  have HNB := hid (fun w2 => newBitmap_any count w2 (by omega))
  have HHO := hid (fun (w1 w2 : World) (v : Int) (h1 : Below w.heap.size w w1) (h : Below w1.heap.size w1 w2) => ((HL.out.mono h1).mono h).holds v)
  obtain ⟨T, hT⟩ : ∃ T : Int → Bool, ∀ v, leafT op (lits.map pI) (pI v) = T v := ⟨_, fun _ => rfl⟩
  simp only [hT] at HST HHO ⊢
  clear hT HL0 HL
  go_enter Tryz.func106, Tryz.ntmps106
  go_upto_region 1 with fail
  generalize w.alloc (.cells #[.int .i64 op, .slice A lits.length c] 117) = w0 at *
  have k4 : w0.cell? ⟨g, 0 + 4, none⟩ = some (.int .i64 count) := by rw [HR0.out.cell]; rfl
  have k5 : w0.cell? ⟨g, 0 + 5, none⟩ = some (.slice A5 count c5) := by rw [HR0.out.cell]; rfl
  go_upto_region 2 with (go_at_call 51; refine (HNB.out w0).mono ?_; rintro e w1 ⟨rfl, h1, h2, h3⟩; have HRW := hid h1; have HB1 := hid h2; have HZ1 := hid h3; clear h1 h2 h3)
  obtain ⟨q, hq⟩ : ∃ q, w0.heap.size = q := ⟨_, rfl⟩
  have HQ := hid hq
  rw [hq] at HRW HB1 HZ1 HSZ ⊢
  clear hq k4 k5
  obtain ⟨m, hm⟩ : ∃ m, (count + 63) / 64 = m := ⟨_, rfl⟩
  have HM := hid hm
  simp only [hm] at HRW HST ⊢
  clear hm HNB
  have HR1 := hid (HR0.out.below HB1.out (by rw [← HQ.out]; exact HR0.out.lt))
  have k5 : w1.cell? ⟨g, 0 + 5, none⟩ = some (.slice A5 count c5) := by rw [HR1.out.cell]; rfl
  go_wp2_with fail
  clear k5
  go_loopw [18] (fun i wr => ∃ j : Nat, j ≤ count ∧ i = .int .i64 j ∧ Hid (∃ zs, BitsTo count j (fun i => T (list.getD i 0)) zs ∧ Row wr q 40 (u64s zs)) ∧ Hid (Below q w0 wr) ∧ Hid (q < wr.heap.size)) (fun i _ => count - (intOf i).toNat)
  case atStart => exact ⟨0, by omega, rfl, hid ⟨_, HST.out, HRW.out⟩, HB1, hid (by rw [HZ1.out]; omega)⟩
  case round =>
    obtain ⟨j, hj, rfl, HR, HB, HZ⟩ := hrel
    by_cases hlt : j < count
    · obtain ⟨zs, hz1, hz2⟩ := HR.out
      have HZA := hid hz1
      have HZR := hid hz2
      clear hz1 hz2 HR
      obtain ⟨b, o, rfl, hcells⟩ := (HLS0.out.mono (by rw [HQ.out]; exact HB.out)).at_I (by omega)
      have l0 := hcells j (by rw [HCL.out]; exact hlt)
      clear hcells
      have HRTw := hid (HRT.out.below HB.out (by have := HSZ.out; omega))
      obtain ⟨y0, y1⟩ := cellP HRTw.out
      have HHw := hid (fun (v : Int) => HHO.out w0 wr v HB0.out (by rw [HQ.out]; exact HB.out))
      obtain ⟨x, hx⟩ : ∃ x, list.getD j 0 = x := ⟨_, rfl⟩
      rw [hx] at l0
      have HX := hid hx
      clear hx
      obtain ⟨tv, htv⟩ : ∃ tv, T x = tv := ⟨_, rfl⟩
      have HTV := hid htv
      have HHx := hid (HHw.out x)
      rw [htv] at HHx
      clear htv HHw
      cases tv
      · go_wp2_with (go_at_call 160; refine HHx.out.mono ?_; rintro e w5 ⟨rfl, hb5⟩; have HB5 := hid hb5; clear hb5 y0 y1 l0)
        go_roundw
        case rel =>
          refine ⟨j + 1, by omega, by go_num, hid ⟨zs, HZA.out.skip (by omega) (fun i h1 h2 => ?_), HZR.out.mono HB5.out⟩, hid (HB.out.trans (HB5.out.mono (Nat.le_of_lt HZ.out))), hid (Nat.lt_of_lt_of_le HZ.out HB5.out.size)⟩
          obtain rfl : i = j := by omega
          show T (list.getD i 0) = false
          rw [HX.out]; exact HTV.out
        case measure => simp [intOf]; omega
      · go_wp2_with (first
          | (go_at_call 160; refine HHx.out.mono ?_; rintro e w5 ⟨rfl, hb5⟩; have HB5 := hid hb5; clear hb5 y0 y1 l0; have HSR := hid (setRange1_any q m count j zs w5 (HZR.out.mono HB5.out) HZA.out.1 HM.out hlt hcn HZA.out.2.1))
          | (go_at_call 150; refine HSR.out.mono ?_; rintro e w6 ⟨rfl, hw6⟩; have HW6 := hid hw6; clear hw6))
        go_roundw
        case rel =>
          obtain ⟨zs', hz1, hz2, hz3, hz4, hz5, hz6⟩ := HW6.out
          have hb6 : Below q w0 w5 := HB.out.trans (HB5.out.mono (Nat.le_of_lt HZ.out))
          have hq5 : q < w5.heap.size := Nat.lt_of_lt_of_le HZ.out HB5.out.size
          refine ⟨j + 1, by omega, by go_num, hid ⟨zs', HZA.out.set (by rw [hz1]; exact HM.out.symm) hz2 hz3 (by omega) (fun i h1 h2 => ?_), hz4⟩, hid (hz5.below hb6 (Nat.le_of_lt hq5) (Nat.le_refl _) (Nat.le_refl _)), hid (by rw [hz6]; exact hq5)⟩
          obtain rfl : i = j := by omega
          show T (list.getD i 0) = true
          rw [HX.out]; exact HTV.out
        case measure => simp [intOf]; omega
    · obtain rfl : j = count := by omega
      obtain ⟨zs, hz1, hz2⟩ := HR.out
      have HZA := hid hz1
      have HZR := hid hz2
      clear hz1 hz2 HR
      go_wp2_with fail
      go_ret
      refine ⟨_, zs, rfl, HZA.out.full, ?_, HB0.out.trans (HB.out.mono (by rw [HSZ.out]; omega))⟩
      rw [HM.out]
      exact HZR.out.rd' (by simp [u64s]; rw [HZA.out.1]; exact HM.out) (by have := HM.out; unfold maxLen; omega)

set_option maxHeartbeats 8000000 in
theorem runHits_I (w : World) (g : Nat) (rows : Int) (codec wd : Nat) (nulls : List Nat) (count : Nat) (list : List Int) (ends : List Nat) (base : Int) (lanes : List Nat) (op : Int) (lits : List Int) (lv : Value)
    (h : Ck_I w g rows codec wd nulls count list ends base lanes) (hcl : list.length = ends.length) (hcn : count ≤ 65536) (hel : ends.length ≤ 65536) (hup : ∀ a b, a < b → b < ends.length → ends.getD a 0 < ends.getD b 0) (hlast : endB ends ends.length = count) (hl : Lit_I w op lv lits) :
    Calls Tryz.prog 107 #[.pointer (some ⟨g, 0, none⟩), .agg #[.int .i64 op, lv]] w fun e w' => HitAns w w' e count (fun i => leafT op (lits.map pI) (pI (list.getD (firstGe (nI ends) ((i : Int) + 1)) 0))) := by
  obtain ⟨A, c, rfl, _, _, _⟩ := hl.rd.form
  have HL := hid hl
  have HC := hid h
  obtain ⟨nu, v5, v6, nv, bef, hr, h2, h3, h4, h5, h6⟩ := h.ex
  obtain ⟨A5, c5, rfl, _, _, _⟩ := h3.form
  obtain ⟨A6, c6, rfl, _, _, _⟩ := h4.form
  obtain ⟨n, hn⟩ : ∃ n, ends.length = n := ⟨_, rfl⟩
  rw [hn] at hcl hel hlast
  rw [hcl, hn] at hr
  rw [hcl] at h3
  rw [hn] at h4
  have HUP := hid hup
  have HROW := hid hr
  have HLS := hid h3
  have HES := hid h4
  have HCL := hid hcl
  have HN := hid hn
  have HLAST := hid hlast
  clear h2 h3 h4 h5 h6 hr h hl hcl hn hlast hup
  have HB0 := hid ((brefl w).alloc (Nat.le_refl _) (.cells #[.int .i64 op, .slice A lits.length c] 117))
  have HRT : Hid (Row (w.alloc (.cells #[.int .i64 op, .slice A lits.length c] 117)) w.heap.size 117 [.int .i64 op, .slice A lits.length c]) := hid (by unfold Row; rw [heap_alloc_new])
  have HSZ : Hid ((w.alloc (.cells #[.int .i64 op, .slice A lits.length c] 117)).heap.size = w.heap.size + 1) := hid (by simp)
  have HR0 := hid (HROW.out.mono HB0.out)
  have HLS0 := hid (HLS.out.mono HB0.out)
  have HES0 := hid (HES.out.mono HB0.out)
  have HST := hid (BitsTo.start count (fun i => leafT op (lits.map pI) (pI (list.getD (firstGe (nI ends) ((i : Int) + 1)) 0))))
  have HNB := hid (fun w2 => newBitmap_any count w2 (by omega))
  have HHO := hid (fun (w1 w2 : World) (v : Int) (h1 : Below w.heap.size w w1) (h : Below w1.heap.size w1 w2) => ((HL.out.mono h1).mono h).holds v)
  obtain ⟨T, hT⟩ : ∃ T : Int → Bool, ∀ v, leafT op (lits.map pI) (pI v) = T v := ⟨_, fun _ => rfl⟩
  simp only [hT] at HST HHO ⊢
  clear hT HL
  go_enter Tryz.func107, Tryz.ntmps107
  go_upto_region 1 with fail
  generalize w.alloc (.cells #[.int .i64 op, .slice A lits.length c] 117) = w0 at *
  have k4 : w0.cell? ⟨g, 0 + 4, none⟩ = some (.int .i64 count) := by rw [HR0.out.cell]; rfl
  go_upto_region 2 with (go_at_call 51; refine (HNB.out w0).mono ?_; rintro e w1 ⟨rfl, h1, h2, h3⟩; have HRW := hid h1; have HB1 := hid h2; have HZ1 := hid h3; clear h1 h2 h3)
  obtain ⟨q, hq⟩ : ∃ q, w0.heap.size = q := ⟨_, rfl⟩
  have HQ := hid hq
  rw [hq] at HRW HB1 HZ1 HSZ ⊢
  clear hq k4
  obtain ⟨m, hm⟩ : ∃ m, (count + 63) / 64 = m := ⟨_, rfl⟩
  have HM := hid hm
  simp only [hm] at HRW HST ⊢
  clear hm HNB
  have HR1 := hid (HR0.out.below HB1.out (by rw [← HQ.out]; exact HR0.out.lt))
  have k6 : w1.cell? ⟨g, 0 + 6, none⟩ = some (.slice A6 n c6) := by rw [HR1.out.cell]; rfl
  go_wp2_with fail
  clear k6
  go_loopw [6, 19] (fun u i wr => ∃ t s : Nat, t ≤ n ∧ s = endB ends t ∧ s ≤ 65536 ∧ u = .int .i64 s ∧ i = .int .i64 t ∧ Hid (∃ zs, BitsTo count s (fun i => T (list.getD (firstGe (nI ends) ((i : Int) + 1)) 0)) zs ∧ Row wr q 40 (u64s zs)) ∧ Hid (Below q w0 wr) ∧ Hid (q < wr.heap.size)) (fun _ i _ => n - (intOf i).toNat)
  case atStart => exact ⟨0, 0, by omega, rfl, by omega, rfl, rfl, hid ⟨_, HST.out, HRW.out⟩, HB1, hid (by rw [HZ1.out]; omega)⟩
  case round =>
    obtain ⟨t, s, ht, hs, hs6, rfl, rfl, HR, HB, HZ⟩ := hrel
    have HS := hid hs
    clear hs
    by_cases hlt : t < n
    · obtain ⟨zs, hz1, hz2⟩ := HR.out
      have HZA := hid hz1
      have HZR := hid hz2
      clear hz1 hz2 HR
      have hbw : Below w0.heap.size w0 wr := by rw [HQ.out]; exact HB.out
      obtain ⟨b, o, rfl, hcells⟩ := (HLS0.out.mono hbw).at_I (by omega)
      have l0 := hcells t (by rw [HCL.out]; exact hlt)
      clear hcells
      obtain ⟨b2, o2, rfl, hcells⟩ := (HES0.out.mono hbw).atI (by omega)
      have l1 := hcells t (by rw [nI_length, HN.out]; exact hlt)
      rw [nI_get ends t (by rw [HN.out]; exact hlt)] at l1
      clear hcells
      have HRTw := hid (HRT.out.below HB.out (by have := HSZ.out; omega))
      have HRw := hid (HR0.out.mono hbw)
      have k5 : wr.cell? ⟨g, 0 + 5, none⟩ = some (.slice (some ⟨b, o, none⟩) n c5) := by rw [HRw.out.cell]; rfl
      obtain ⟨y0, y1⟩ := cellP HRTw.out
      have HHw := hid (fun (w2 : World) (v : Int) (h : Below wr.heap.size wr w2) => HHO.out w0 w2 v HB0.out (bthen hbw h))
      obtain ⟨x, hx⟩ : ∃ x, list.getD t 0 = x := ⟨_, rfl⟩
      rw [hx] at l0
      have HX := hid hx
      obtain ⟨en, hen⟩ : ∃ en, ends.getD t 0 = en := ⟨_, rfl⟩
      rw [hen] at l1
      have HEN := hid hen
      have hse : s ≤ en := by rw [HS.out, ← hen]; exact endB_le HUP.out (by rw [HN.out]; exact hlt)
      have hec : en ≤ count := by rw [← hen, ← HLAST.out]; exact end_le_last HUP.out (by rw [HN.out]; exact hlt) HN.out
      have HFG : Hid (∀ i : Nat, s ≤ i → i < en → firstGe (nI ends) ((i : Int) + 1) = t) := hid (fun i h1 h2 => firstGe_run HUP.out (by rw [HN.out]; exact hlt) (by rw [← HS.out]; exact h1) (by rw [hen]; exact h2))
      have HSn : Hid (en = endB ends (t + 1)) := hid (by rw [← hen]; unfold endB; rw [if_neg (by omega)]; rfl)
      clear hx hen hbw
      obtain ⟨tv, htv⟩ : ∃ tv, T x = tv := ⟨_, rfl⟩
      have HTV := hid htv
      have HHx := hid (fun (w2 : World) (h : Below wr.heap.size wr w2) => HHw.out w2 x h)
      rw [htv] at HHx
      clear htv HHw
      have HSRA := hid (fun (w5 : World) (hr : Row w5 q 40 (u64s zs)) => setRange_any q m m s en zs w5 hr (by rw [HZA.out.1]; exact HM.out) hse (by have := HM.out; omega) (by have := HM.out; omega) (Nat.le_refl _) HZA.out.2.1)
      have hgl : g < wr.heap.size := HRw.out.lt
      have hbl : b < wr.heap.size := World.block_lt_of_cell? wr _ l0
      have hpl : w.heap.size < wr.heap.size := HRTw.out.lt
      cases tv
      · go_upto_region 6 with fail
        go_region_held3 (fun w' => w'.cell? ⟨w.heap.size, 0, none⟩ = some (.int .i64 op) ∧ w'.cell? ⟨w.heap.size, 1, none⟩ = some (.slice A lits.length c) ∧ w'.cell? ⟨g, 0 + 5, none⟩ = some (.slice (some ⟨b, o, none⟩) n c5) ∧ w'.cell? ⟨b, o + t, none⟩ = some (.int .i64 x)) (go_keep)
          (first
            | (go_at_call 160; refine (HHx.out _ (bdrew (brefl wr) 1)).mono ?_; rintro e w5 ⟨rfl, hb5⟩; have HB5 := hid ((bdrew (brefl wr) 1).trans hb5); have m0 := (hb5.cell (p := ⟨w.heap.size, 0, none⟩) hpl).trans y0; have m1 := (hb5.cell (p := ⟨w.heap.size, 1, none⟩) hpl).trans y1; have m2 := (hb5.cell (p := ⟨g, 0 + 5, none⟩) hgl).trans k5; have m3 := (hb5.cell (p := ⟨b, o + t, none⟩) hbl).trans l0; clear hb5))
        go_wp2_with fail
        go_roundw
        case rel =>
          refine ⟨t + 1, en, by omega, HSn.out, by omega, rfl, by go_num, hid ⟨zs, HZA.out.skip hse (fun i h1 h2 => ?_), HZR.out.mono HB5.out⟩, hid (HB.out.trans (HB5.out.mono (Nat.le_of_lt HZ.out))), hid (Nat.lt_of_lt_of_le HZ.out HB5.out.size)⟩
          show T (list.getD (firstGe (nI ends) ((i : Int) + 1)) 0) = false
          rw [HFG.out i h1 h2, HX.out]; exact HTV.out
        case measure => simp [intOf]; omega
      · go_upto_region 6 with fail
        go_region_held3 (fun w' => w'.cell? ⟨w.heap.size, 0, none⟩ = some (.int .i64 op) ∧ w'.cell? ⟨w.heap.size, 1, none⟩ = some (.slice A lits.length c) ∧ w'.cell? ⟨g, 0 + 5, none⟩ = some (.slice (some ⟨b, o, none⟩) n c5) ∧ w'.cell? ⟨b, o + t, none⟩ = some (.int .i64 x)) (go_keep)
          (first
            | (go_at_call 160; refine (HHx.out _ (bdrew (brefl wr) 1)).mono ?_; rintro e w5 ⟨rfl, hb5⟩; have HB5 := hid ((bdrew (brefl wr) 1).trans hb5); have m0 := (hb5.cell (p := ⟨w.heap.size, 0, none⟩) hpl).trans y0; have m1 := (hb5.cell (p := ⟨w.heap.size, 1, none⟩) hpl).trans y1; have m2 := (hb5.cell (p := ⟨g, 0 + 5, none⟩) hgl).trans k5; have m3 := (hb5.cell (p := ⟨b, o + t, none⟩) hbl).trans l0; clear hb5))
        have HSRx := hid (HSRA.out w5 (HZR.out.mono HB5.out))
        go_wp2_with (go_at_call 150; refine HSRx.out.mono ?_; rintro e w6 ⟨rfl, hw6⟩; have HW6 := hid hw6; clear hw6)
        go_roundw
        case rel =>
          obtain ⟨zs', hz1, hz2, hz3, hz4, hz5, hz6⟩ := HW6.out
          have hb6 : Below q w0 w5 := HB.out.trans (HB5.out.mono (Nat.le_of_lt HZ.out))
          have hq5 : q < w5.heap.size := Nat.lt_of_lt_of_le HZ.out HB5.out.size
          refine ⟨t + 1, en, by omega, HSn.out, by omega, rfl, by go_num, hid ⟨zs', HZA.out.set (by rw [hz1]; exact HM.out.symm) hz2 hz3 hse (fun i h1 h2 => ?_), hz4⟩, hid (hz5.below hb6 (Nat.le_of_lt hq5) (Nat.le_refl _) (Nat.le_refl _)), hid (by rw [hz6]; exact hq5)⟩
          show T (list.getD (firstGe (nI ends) ((i : Int) + 1)) 0) = true
          rw [HFG.out i h1 h2, HX.out]; exact HTV.out
        case measure => simp [intOf]; omega
    · obtain rfl : t = n := by omega
      obtain ⟨zs, hz1, hz2⟩ := HR.out
      have HZA := hid hz1
      have HZR := hid hz2
      have hsc : s = count := by rw [HS.out, HLAST.out]
      clear hz1 hz2 HR
      go_wp2_with fail
      go_ret
      refine ⟨_, zs, rfl, ?_, ?_, HB0.out.trans (HB.out.mono (by rw [HSZ.out]; omega))⟩
      · have h1 := HZA.out
        rw [hsc] at h1; exact h1
      rw [HM.out]
      exact HZR.out.rd' (by simp [u64s]; rw [HZA.out.1]; exact HM.out) (by have := HM.out; unfold maxLen; omega)
end Go.Proofs.YthonbfojpbfmgaaGreatDoor

/- Package codec: the numbers of integers. -/
set_option linter.unusedVariables false
set_option linter.unusedSimpArgs false
set_option linter.unnecessarySimpa false
set_option maxRecDepth 100000
namespace Go.Proofs.YthonbfojpbfmgaaGreatDoor
open Go.RowKit

theorem field_Int (b : Bool) (i : Int) (s : ByteArray) : ∀ w : World, (Instr.field 42 (.agg #[.bool b, .int .i64 i, .string s]) 1).run Tryz.prog w = .ok (.int .i64 i) w := fun _ => by rfl
end Go.Proofs.YthonbfojpbfmgaaGreatDoor
