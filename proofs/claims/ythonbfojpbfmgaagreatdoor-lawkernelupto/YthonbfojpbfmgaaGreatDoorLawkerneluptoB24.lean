/- Package kernel: hits out of lanes (strings). -/
import Derived.Test.YthonbfojpbfmgaaGreatDoorLawkerneluptoB21
import Derived.Test.YthonbfojpbfmgaaGreatDoorLawkerneluptoB23
import Derived.Test.YthonbfojpbfmgaaGreatDoorLawkerneluptoB20
import Derived.Test.YthonbfojpbfmgaaGreatDoorLawkerneluptoB12
import Derived.Test.YthonbfojpbfmgaaGreatDoorLawkerneluptoB22
import Derived.Test.YthonbfojpbfmgaaGreatDoorLawkerneluptoB17
set_option linter.unusedVariables false
set_option linter.unusedSimpArgs false
set_option linter.unnecessarySimpa false
set_option maxRecDepth 100000
namespace Go.Proofs.YthonbfojpbfmgaaGreatDoor
open Go.RowKit

/-- a chunk's lanes: what is known of them -/
structure LnD_S (codec wd count : Nat) (list : List ByteArray) (base : Int) (lanes : List Nat) : Prop where
  cd : codec = 2 ∨ codec = 4 ∨ codec = 5
  cd2 : cdL_S codec
  ok : okPack wd count lanes = true
  lv : ∀ x ∈ lanes, x < 18446744073709551616
  lm : lanes.length ≤ 16777216
  ll : list.length ≤ 1048576
  cn : count ≤ 65536
  up : codec = 2 → ∀ a b, a < b → b < list.length → ltS (list.getD a ByteArray.empty) (list.getD b ByteArray.empty) = true
  inl : codec = 2 → ∀ j, j < count → L.laneOf wd lanes j < list.length
  b : okI base
  rm : codec ≠ 2 → ∀ j, j < count → base + (L.laneOf wd lanes j : Int) ≤ 9223372036854775807
theorem firstGeS_iff {es : List ByteArray} {t : ByteArray} (hup : ∀ a b, a < b → b < es.length → ltS (es.getD a ByteArray.empty) (es.getD b ByteArray.empty) = true) {a : Nat} (ha : a < es.length) : a < firstGeS es t ↔ ltS (es.getD a ByteArray.empty) t = true := by
  have hg : ∀ (i : Nat) (h : i < es.length), es.getD i ByteArray.empty = es[i] := fun i h => by simp [List.getD, List.getElem?_eq_getElem h]
  constructor
  · intro h
    have h1 := List.not_of_lt_findIdx (p := fun e => !ltS e t) (xs := es) h
    rw [hg a ha]
    simpa using h1
  · intro h
    rcases Nat.lt_or_ge a (firstGeS es t) with h1 | h1
    · exact h1
    · exfalso
      have hr : firstGeS es t < es.length := by omega
      have h2 := List.findIdx_getElem (p := fun e => !ltS e t) (xs := es) (w := hr)
      have h3 : ltS (es.getD (firstGeS es t) ByteArray.empty) t = false := by rw [hg _ hr]; have h22 : (!ltS es[firstGeS es t] t) = true := h2; simpa using h22
      by_cases he : a = firstGeS es t
      · rw [he, h3] at h; cases h
      · have h4 := hup _ _ (show firstGeS es t < a by omega) ha
        have h5 := ltS_up h4 h3
        rw [h5] at h; cases h
theorem firstGeS_mem {es : List ByteArray} {t : ByteArray} (hup : ∀ a b, a < b → b < es.length → ltS (es.getD a ByteArray.empty) (es.getD b ByteArray.empty) = true) {a : Nat} (ha : a < es.length) : es.getD a ByteArray.empty = t ↔ (t ∈ es ∧ a = firstGeS es t) := by
  have hg : ∀ (i : Nat) (h : i < es.length), es.getD i ByteArray.empty = es[i] := fun i h => by simp [List.getD, List.getElem?_eq_getElem h]
  constructor
  · intro h
    refine ⟨by rw [← h, hg a ha]; exact List.getElem_mem ha, ?_⟩
    exact (firstGeS_eq es t a (Nat.le_of_lt ha) (fun b hb => by rw [← h]; exact hup b a hb ha) (fun _ => by rw [h]; exact bytesLess_self _)).symm
  · rintro ⟨h1, h2⟩
    obtain ⟨i, hi, he⟩ := List.getElem_of_mem h1
    have h3 : firstGeS es t = i := firstGeS_eq es t i (Nat.le_of_lt hi) (fun b hb => by rw [← he, ← hg i hi]; exact hup b i hb hi) (fun _ => by rw [hg i hi, he]; exact bytesLess_self _)
    rw [h2, h3, hg i hi, he]
theorem vl_two_S (wd : Nat) (list : List ByteArray) (ends : List Nat) (base : Int) (lanes : List Nat) (j : Nat) : vl_S 2 wd list ends base lanes j = list.getD (L.laneOf wd lanes j) ByteArray.empty := by
  unfold vl_S val_S
  rw [if_neg (by omega), if_pos rfl]; rfl
theorem sg_S (v l : ByteArray) : ((ordP (pS v) (pS l) < 0) ↔ ltS v l = true) ∧ (ordP (pS v) (pS l) = 0 ↔ v = l) := by
  rw [ordP_pSS]
  have h0 : eqS v l = true ↔ v = l := ⟨fun h => ba_ext (eq_of_beq h), fun h => by rw [h]; unfold eqS; simp⟩
  have h1 : eqS v l = true → ltS v l = false := fun h => lt_eq_S h
  unfold ordS
  constructor
  · cases ltS v l <;> cases eqS v l <;> simp
  · rw [← h0]
    cases h2 : ltS v l <;> cases h3 : eqS v l <;> simp
    rw [h2] at h1; exact absurd (h1 h3) (by simp)
theorem lane_rel_S {codec wd count : Nat} {list : List ByteArray} {base : Int} {lanes : List Nat} (d : LnD_S codec wd count list base lanes) (ends : List Nat) (op : Int) (ho : 1 ≤ op ∧ op ≤ 6) (lit : ByteArray) {j : Nat} (hj : j < count) :
    cmpF wd (laO (lnE_S codec list base lit) op) lanes (laC (lnE_S codec list base lit) op (lnC_S codec list base lit)) j = standsS op (ordP (pS (vl_S codec wd list ends base lanes j)) (pS lit)) := by
  unfold cmpF
  obtain ⟨s1, s2⟩ := sg_S (vl_S codec wd list ends base lanes j) lit
  obtain rfl : codec = 2 := d.cd2
  refine rel_lane op ho _ _ _ _ (s1.trans ?_) (s2.trans ?_)
  · rw [vl_two_S, ← firstGeS_iff (d.up rfl) (d.inl rfl j hj)]
    unfold lnC_S; rfl
  · rw [vl_two_S, firstGeS_mem (d.up rfl) (d.inl rfl j hj)]
    unfold lnC_S lnE_S; rw [foundS_iff]
theorem lnC_lt_S {codec wd count : Nat} {list : List ByteArray} {base : Int} {lanes : List Nat} (d : LnD_S codec wd count list base lanes) (lit : ByteArray) (hl : okL_S lit) : lnC_S codec list base lit < 18446744073709551616 := by
  have := d.ll
  unfold lnC_S
  have := firstGeS_le' list lit
  omega
/-- the bits of one comparison -/
theorem comp_S (w : World) (g : Nat) (rows : Int) (codec wd : Nat) (nulls : List Nat) (count : Nat) (list : List ByteArray) (ends : List Nat) (base : Int) (lanes : List Nat) (op : Int) (lit : ByteArray)
    (h : Ck_S w g rows codec wd nulls count list ends base lanes) (hT : Tab w) (d : LnD_S codec wd count list base lanes) (hlr : okL_S lit) (ho : 1 ≤ op ∧ op ≤ 6) :
    Calls Tryz.prog 152 #[.iface 66 (.agg #[]), .pointer (some ⟨g, 0, none⟩), .int .i64 op, .string lit] w fun e w' =>
      ∃ r zs, e = .returned r ∧ BitsOf count (fun j => standsS op (ordP (pS (vl_S codec wd list ends base lanes j)) (pS lit))) zs ∧ w'.ownsRow w.heap.size 40 1 r ((count + 63) / 64) (u64s zs) ∧ Below w.heap.size w w' := by
  refine (compareLanes_S w g rows codec wd nulls count list ends base lanes op lit h hT d.ll d.up d.cd2 d.b hlr ho d.lv d.lm (lnC_lt_S d lit hlr)).mono ?_
  rintro e w' ⟨r, rfl, h1, h2⟩
  have hb := cmpR_bits wd count (laO (lnE_S codec list base lit) op) lanes (laC (lnE_S codec list base lit) op (lnC_S codec list base lit)) (by unfold cmpOk; rw [laO_rel _ _ ho, d.ok]; rfl)
  refine ⟨r, _, rfl, ⟨hb.1, hb.2.1, fun i => ?_⟩, by rw [← hb.1]; exact h1, h2⟩
  rw [hb.2.2]
  by_cases hi : i < count
  · rw [lane_rel_S d ends op ho lit hi]
  · simp [hi]
end Go.Proofs.YthonbfojpbfmgaaGreatDoor

/- Package kernel: the hits of a chunk whose values stand in lanes (strings). -/
set_option linter.unusedVariables false
set_option linter.unusedSimpArgs false
set_option linter.unnecessarySimpa false
set_option maxRecDepth 100000
namespace Go.Proofs.YthonbfojpbfmgaaGreatDoor
open Go.RowKit

theorem leafT_le6_S (op : Int) (h : 1 ≤ op ∧ op ≤ 6) (l : ByteArray) (v : PV) : leafT op ([l].map pS) v = standsS op (ordP v (pS l)) := by
  unfold leafT
  rw [if_neg (by omega), if_neg (by omega)]; rfl
theorem leafT_7_S (ls : List ByteArray) (v : PV) : leafT 7 (ls.map pS) v = ls.any (fun x => standsS 1 (ordP v (pS x))) := by
  unfold leafT
  rw [if_pos rfl, List.any_map]; rfl
theorem leafT_8_S (a b : ByteArray) (v : PV) : leafT 8 ([a, b].map pS) v = (standsS 6 (ordP v (pS a)) && standsS 4 (ordP v (pS b))) := by
  unfold leafT
  rw [if_neg (by decide), if_pos rfl]
  show (decide (0 ≤ ordP v (pS a)) && decide (ordP v (pS b) ≤ 0)) = _
  unfold standsS
  simp
set_option maxHeartbeats 8000000 in
theorem laneHits_S (w : World) (g : Nat) (rows : Int) (codec wd : Nat) (nulls : List Nat) (count : Nat) (list : List ByteArray) (ends : List Nat) (base : Int) (lanes : List Nat) (op : Int) (lits : List ByteArray) (lv : Value)
    (h : Ck_S w g rows codec wd nulls count list ends base lanes) (hT : Tab w) (d : LnD_S codec wd count list base lanes) (hl : Lit_S w op lv lits) (hlr : ∀ x ∈ lits, okL_S x) :
    Calls Tryz.prog 102 #[.iface 66 (.agg #[]), .pointer (some ⟨g, 0, none⟩), .agg #[.int .i64 op, lv]] w fun e w' => HitAns w w' e count (fun j => leafT op (lits.map pS) (pS (vl_S codec wd list ends base lanes j))) := by
  obtain ⟨A, c, rfl, _, _, _⟩ := hl.rd.form
  have HL := hid hl
  have HB0 := hid ((brefl w).alloc (Nat.le_refl _) (.cells #[.int .i64 op, .slice A lits.length c] 106))
  have HRT : Hid (Row (w.alloc (.cells #[.int .i64 op, .slice A lits.length c] 106)) w.heap.size 106 [.int .i64 op, .slice A lits.length c]) := hid (by unfold Row; rw [heap_alloc_new])
  have HSZ : Hid ((w.alloc (.cells #[.int .i64 op, .slice A lits.length c] 106)).heap.size = w.heap.size + 1) := hid (by simp)
  have HCO := hid (fun (w2 : World) (hb : Below w.heap.size w w2) (op' : Int) (lit : ByteArray) (hlt : okL_S lit) (ho : 1 ≤ op' ∧ op' ≤ 6) => comp_S w2 g rows codec wd nulls count list ends base lanes op' lit (h.mono hb) (hT.mono hb hT.lt) d hlt ho)
  have HC := hid h
  have HLR := hid hlr
  have hcn : count ≤ 65536 := d.cn
  obtain ⟨ho1, ho2, ho3, ho4⟩ := hl.ok
  have hll : lits.length ≤ 1048576 := hl.le
  clear h hT d hl hlr
  generalize vl_S codec wd list ends base lanes = vl at *
  have hcase : op ≤ 6 ∨ op = 7 ∨ op = 8 := by omega
  rcases hcase with h6 | rfl | rfl
  · obtain ⟨l0, rfl⟩ : ∃ l0, lits = [l0] := by
      have := ho3 h6
      match lits, this with
      | [x], _ => exact ⟨x, rfl⟩
    have hop : 1 ≤ op ∧ op ≤ 6 := ⟨ho1, h6⟩
    simp only [leafT_le6_S op hop]
    have h7 : ¬ op = 7 := by omega
    have h8 : ¬ op = 8 := by omega
    have h7b : (op == 7) = false := beq_eq_false_iff_ne.2 h7
    have h8b : (op == 8) = false := beq_eq_false_iff_ne.2 h8
    have HCX := hid (fun (w2 : World) (hb : Below w.heap.size w w2) => HCO.out w2 hb op l0 (HLR.out l0 (by simp)) hop)
    obtain ⟨b, o, rfl, hs⟩ := (HL.out.mono HB0.out).rd.atS (by simp)
    have c0 := hs 0 (by simp)
    simp only [List.getD_cons_zero, Nat.add_zero] at c0
    simp only [List.length_singleton] at HB0 HRT HSZ c0 ⊢
    clear hs HL HCO HLR ho1 ho2 ho3 ho4 h6 hll hop
    go_enter Tryz.func102, Tryz.ntmps102
    go_upto_region 1 with fail
    generalize w.alloc (.cells #[.int .i64 op, .slice (some ⟨b, o, none⟩) 1 c] 106) = w0 at *
    obtain ⟨k0, k1⟩ := cellP HRT.out
    go_upto_region 14 with fail
    have hpl : w.heap.size < w0.heap.size := HRT.out.lt
    have hbl : b < w0.heap.size := World.block_lt_of_cell? w0 _ c0
    go_region_held3 (fun w' => w'.cell? ⟨w.heap.size, 0, none⟩ = some (.int .i64 op) ∧ w'.cell? ⟨w.heap.size, 1, none⟩ = some (.slice (some ⟨b, o, none⟩) 1 c) ∧ w'.cell? ⟨b, o, none⟩ = some (.string l0)) (go_keep)
      (first
        | (go_at_call 152; refine (HCX.out _ (bdrew HB0.out 1)).mono ?_; rintro e w5 ⟨r, zs, rfl, hz1, hz2, hb5⟩; have HZ1 := hid hz1; have HZ2 := hid hz2; have HB5 := hid ((bdrew (brefl w0) 1).trans hb5); have m0 := (hb5.cell (p := ⟨w.heap.size, 0, none⟩) hpl).trans k0; have m1 := (hb5.cell (p := ⟨w.heap.size, 1, none⟩) hpl).trans k1; have m2 := (hb5.cell (p := ⟨b, o, none⟩) hbl).trans c0; clear hb5 hz1 hz2))
    all_goals go_wp2_with fail
    all_goals go_ret
    all_goals exact ⟨r, zs, rfl, HZ1.out, owns_rd HZ2.out, bthen HB0.out HB5.out⟩
  · have HCX := hid (fun (w2 : World) (hb : Below w.heap.size w w2) (x : ByteArray) (hx : x ∈ lits) => HCO.out w2 hb 1 x (HLR.out x hx) (by omega))
    simp only [leafT_7_S]
    have HL0 := hid (HL.out.mono HB0.out).rd
    have HNB := hid (fun w2 => newBitmap_any count w2 (by omega))
    obtain ⟨n, hn⟩ : ∃ n, lits.length = n := ⟨_, rfl⟩
    have HN := hid hn
    rw [hn] at HB0 HRT HSZ HL0 hll ⊢
    clear HL HCO HLR ho1 ho2 ho3 ho4 hn
    obtain ⟨T, hT⟩ : ∃ T : Nat → ByteArray → Bool, ∀ j x, standsS 1 (ordP (pS (vl j)) (pS x)) = T j x := ⟨_, fun _ _ => rfl⟩
    simp only [hT] at HCX ⊢
    clear hT
    have HST := hid (BitsTo.start count (fun j => (lits.take 0).any (T j)))
    go_enter Tryz.func102, Tryz.ntmps102
    go_upto_region 1 with fail
    generalize w.alloc (.cells #[.int .i64 7, .slice A n c] 106) = w0 at *
    obtain ⟨k0, k1⟩ := cellP HRT.out
    have HR0 := hid (by obtain ⟨nu, v5, ev, nv, bef, hr, _⟩ := HC.out.ex; exact (⟨nu, v5, ev, nv, bef, hr.mono HB0.out⟩ : ∃ nu v5 ev nv bef, Row w0 g 94 (ck_S rows codec wd nu count v5 ev base nv (.iface 66 (.agg #[])) bef)))
    have k4 : w0.cell? ⟨g, 0 + 4, none⟩ = some (.int .i64 count) := by obtain ⟨nu, v5, ev, nv, bef, hr⟩ := HR0.out; rw [hr.cell]; rfl
    go_upto_region 4 with (go_at_call 51; refine (HNB.out w0).mono ?_; rintro e w1 ⟨rfl, h1, h2, h3⟩; have HRW := hid h1; have HB1 := hid h2; have HZ1 := hid h3; clear h1 h2 h3)
    have HRT1 := hid (HRT.out.mono HB1.out)
    obtain ⟨q, hq⟩ : ∃ q, w0.heap.size = q := ⟨_, rfl⟩
    have HQ := hid hq
    rw [hq] at HRW HB1 HZ1 HSZ ⊢
    obtain ⟨m, hm⟩ : ∃ m, (count + 63) / 64 = m := ⟨_, rfl⟩
    have HM := hid hm
    rw [hm] at HRW HST
    simp only [hm] at HCX ⊢
    clear hq hm HNB k0 k1 k4
    obtain ⟨y0, y1⟩ := cellP HRT1.out
    go_wp2_with fail
    clear y0 y1
    go_loopw [23] (fun i wr => ∃ k : Nat, k ≤ n ∧ i = .int .i64 k ∧ Hid (∃ zs, zs.length = m ∧ (∀ x ∈ zs, x < 18446744073709551616) ∧ (∀ j, bitOf zs j = (decide (j < count) && (lits.take k).any (T j))) ∧ Row wr q 40 (u64s zs)) ∧ Hid (Below q w0 wr) ∧ Hid (q < wr.heap.size)) (fun i _ => n - (intOf i).toNat)
    case atStart => exact ⟨0, by omega, rfl, hid ⟨List.replicate m 0, by simp, HST.out.2.1, fun j => by rw [HST.out.2.2]; simp, HRW.out⟩, HB1, hid (by rw [HZ1.out]; omega)⟩
    case round =>
      obtain ⟨k, hk, rfl, HR, HB, HZ⟩ := hrel
      obtain ⟨zs, hz1, hz2, hz3, hz4⟩ := HR.out
      have HA1 := hid hz1; have HA2 := hid hz2; have HA3 := hid hz3; have HA4 := hid hz4
      clear hz1 hz2 hz3 hz4 HR
      by_cases hlt : k < n
      · have hbw : Below w0.heap.size w0 wr := by rw [HQ.out]; exact HB.out
        obtain ⟨b, o, rfl, hs⟩ := (HL0.out.mono hbw).atS (by omega)
        have l0 := hs k (by rw [HN.out]; exact hlt)
        have HX := hid (show lits.getD k default ∈ lits by simp [List.getD, List.getElem?_eq_getElem (show k < lits.length by rw [HN.out]; exact hlt)])
        have HTK : Hid (lits.take (k + 1) = lits.take k ++ [lits.getD k default]) := hid (by rw [List.take_add_one]; simp [List.getD, List.getElem?_eq_getElem (show k < lits.length by rw [HN.out]; exact hlt)])
        have HCY := hid (HCX.out wr (bthen HB0.out hbw) _ HX.out)
        clear hs hbw
        generalize lits.getD k default = x at *
        go_wp2_with (first
          | (go_at_call 152; refine HCY.out.mono ?_; rintro e w5 ⟨r, z2, rfl, hy1, hy2, hb5⟩; have HY1 := hid hy1; have HY2 := hid hy2; have HB5 := hid hb5; have hqw := HZ.out; clear hy1 hy2 hb5; have HUN := hid (unite_any q m m r zs z2 w5 (HA4.out.mono HB5.out) HA1.out (fun w' hc => owns_rd (owns_chg HY2.out hc hqw hqw)) (by rw [HY1.out.1]; exact HM.out) (by have := HM.out; omega) (Nat.le_refl _) HA2.out HY1.out.2.1))
          | (go_at_call 151; refine HUN.out.mono ?_; rintro e w6 ⟨rfl, hw6⟩; have HW6 := hid hw6; clear hw6))
        go_roundw
        case rel =>
          obtain ⟨zs', hz1, hz2, hz3, hz4, hz5, hz6⟩ := HW6.out
          have hb6 : Below q w0 w5 := HB.out.trans (HB5.out.mono (Nat.le_of_lt HZ.out))
          have hq5 : q < w5.heap.size := Nat.lt_of_lt_of_le HZ.out HB5.out.size
          refine ⟨k + 1, by omega, by go_num, hid ⟨zs', hz1, hz2, fun j => ?_, hz4⟩, hid (hz5.below hb6 (Nat.le_of_lt hq5) (Nat.le_refl _) (Nat.le_refl _)), hid (by rw [hz6]; exact hq5)⟩
          have hz3j : bitOf zs' j = (bitOf zs j || bitOf z2 j) := hz3 j
          rw [hz3j, HA3.out, HY1.out.2.2, HTK.out, List.any_append]
          cases decide (j < count) <;> simp
        case measure => simp [intOf]; omega
      · obtain rfl : k = n := by omega
        have htk : lits.take k = lits := by rw [← HN.out, List.take_length]
        rw [htk] at HA3
        clear htk
        go_wp2_with fail
        go_ret
        refine ⟨_, zs, rfl, ⟨by rw [HA1.out, HM.out], HA2.out, HA3.out⟩, ?_, HB0.out.trans (HB.out.mono (by rw [HSZ.out]; omega))⟩
        rw [HM.out]
        exact HA4.out.rd' (by simp [u64s]; exact HA1.out) (by have := HM.out; unfold maxLen; omega)
  · obtain ⟨a, b2, rfl⟩ : ∃ a b2, lits = [a, b2] := by
      have := ho4 rfl
      match lits, this with
      | [x, y], _ => exact ⟨x, y, rfl⟩
    simp only [leafT_8_S]
    have HCA := hid (fun (w2 : World) (hb : Below w.heap.size w w2) => HCO.out w2 hb 6 a (HLR.out a (by simp)) (by omega))
    have HCB := hid (fun (w2 : World) (hb : Below w.heap.size w w2) => HCO.out w2 hb 4 b2 (HLR.out b2 (by simp)) (by omega))
    obtain ⟨b, o, rfl, hs⟩ := (HL.out.mono HB0.out).rd.atS (by simp)
    have c0 := hs 0 (by simp)
    have c1 := hs 1 (by simp)
    simp only [List.getD_cons_zero, List.getD_cons_succ, Nat.add_zero] at c0 c1
    have hl2 : [a, b2].length = 2 := rfl
    simp only [hl2] at HB0 HRT HSZ c0 c1 ⊢
    clear hs HL HCO HLR ho1 ho2 ho3 ho4 hll hl2
    go_enter Tryz.func102, Tryz.ntmps102
    go_upto_region 1 with fail
    generalize w.alloc (.cells #[.int .i64 8, .slice (some ⟨b, o, none⟩) 2 c] 106) = w0 at *
    obtain ⟨k0, k1⟩ := cellP HRT.out
    have hpl : w.heap.size < w0.heap.size := HRT.out.lt
    have hbl : b < w0.heap.size := World.block_lt_of_cell? w0 _ c0
    go_upto_region 12 with (go_at_call 152; refine (HCA.out w0 HB0.out).mono ?_; rintro e w5 ⟨r, zs, rfl, hz1, hz2, hb5⟩; have HZ1 := hid hz1; have HZ2 := hid hz2; have HB5 := hid hb5; have m0 := (hb5.cell (p := ⟨w.heap.size, 0, none⟩) hpl).trans k0; have m1 := (hb5.cell (p := ⟨w.heap.size, 1, none⟩) hpl).trans k1; have m2 := (hb5.cell (p := ⟨b, o, none⟩) hbl).trans c0; have m3 := (hb5.cell (p := ⟨b, o + 1, none⟩) hbl).trans c1; clear hb5 hz1 hz2)
    clear k0 k1 c0 c1
    go_upto_region 13 with (first
      | (go_at_call 152; refine (HCB.out w5 (bthen HB0.out HB5.out)).mono ?_; rintro e w6 ⟨r2, z2, rfl, hy1, hy2, hb6⟩; have HY1 := hid hy1; have HY2 := hid hy2; have HB6 := hid hb6; clear hy1 hy2 hb6; have HIN := hid (intersectO_any w0.heap.size w5.heap.size ((count + 63) / 64) r r2 zs z2 w6 (owns_below HZ2.out HB6.out) HY2.out (Nat.le_trans HB5.out.size HB6.out.size) (fun k hk => (HZ2.out.lt k hk).2) (by omega) HZ1.out.2.1 HY1.out.2.1))
      | (go_at_call 153; refine HIN.out.mono ?_; rintro e w7 ⟨rfl, hb7, z3, hx1, hx2, hx3, hx4⟩; have HB7 := hid hb7; have HX1 := hid hx1; have HX2 := hid hx2; have HX3 := hid hx3; have HX4 := hid hx4; clear hx1 hx2 hx3 hx4 hb7))
    go_wp2_with fail
    go_ret
    refine ⟨r, z3, rfl, ⟨HX1.out, HX2.out, fun i => ?_⟩, HX4.out, HB0.out.trans (((HB5.out.trans (HB6.out.mono HB5.out.size)).trans HB7.out).mono HB0.out.size)⟩
    rw [HX3.out, HZ1.out.2.2, HY1.out.2.2]
    cases decide (i < count) <;> simp
end Go.Proofs.YthonbfojpbfmgaaGreatDoor

/- Package kernel: the hits of a chunk (strings). -/
set_option linter.unusedVariables false
set_option linter.unusedSimpArgs false
set_option linter.unnecessarySimpa false
set_option maxRecDepth 100000
namespace Go.Proofs.YthonbfojpbfmgaaGreatDoor
open Go.RowKit

/-- a chunk's values: what is known of them, by codec -/
def HitD_S (codec wd count : Nat) (list : List ByteArray) (ends : List Nat) (base : Int) (lanes : List Nat) : Prop :=
  (codec = 1 ∧ list.length = count ∧ count ≤ 65536) ∨
  (codec = 3 ∧ list.length = ends.length ∧ count ≤ 65536 ∧ ends.length ≤ 65536 ∧ (∀ a b, a < b → b < ends.length → ends.getD a 0 < ends.getD b 0) ∧ endB ends ends.length = count) ∨
  LnD_S codec wd count list base lanes
theorem vl_one_S (wd : Nat) (list : List ByteArray) (ends : List Nat) (base : Int) (lanes : List Nat) (j : Nat) : vl_S 1 wd list ends base lanes j = list.getD j dfS := by
  unfold vl_S val_S
  simp
theorem vl_three_S (wd : Nat) (list : List ByteArray) (ends : List Nat) (base : Int) (lanes : List Nat) (j : Nat) : vl_S 3 wd list ends base lanes j = list.getD (firstGe (nI ends) ((j : Int) + 1)) dfS := by
  unfold vl_S val_S
  simp
set_option maxHeartbeats 8000000 in
theorem hitsOf_S (w : World) (g : Nat) (rows : Int) (codec wd : Nat) (nulls : List Nat) (count : Nat) (list : List ByteArray) (ends : List Nat) (base : Int) (lanes : List Nat) (op : Int) (lits : List ByteArray) (lv : Value)
    (h : Ck_S w g rows codec wd nulls count list ends base lanes) (hT : Tab w) (d : HitD_S codec wd count list ends base lanes) (hl : Lit_S w op lv lits) (hlr : ∀ x ∈ lits, okL_S x) :
    Calls Tryz.prog 54 #[.iface 66 (.agg #[]), .pointer (some ⟨g, 0, none⟩), .agg #[.int .i64 op, lv]] w fun e w' => HitAns w w' e count (fun j => leafT op (lits.map pS) (pS (vl_S codec wd list ends base lanes j))) := by
  have HANS : Hid (∀ w2, Below w.heap.size w w2 → (codec = 1 → Calls Tryz.prog 100 #[.pointer (some ⟨g, 0, none⟩), .agg #[.int .i64 op, lv]] w2 fun e w' => HitAns w2 w' e count (fun j => leafT op (lits.map pS) (pS (vl_S codec wd list ends base lanes j)))) ∧
      (codec = 3 → Calls Tryz.prog 101 #[.pointer (some ⟨g, 0, none⟩), .agg #[.int .i64 op, lv]] w2 fun e w' => HitAns w2 w' e count (fun j => leafT op (lits.map pS) (pS (vl_S codec wd list ends base lanes j)))) ∧
      (codec ≠ 1 → codec ≠ 3 → Calls Tryz.prog 102 #[.iface 66 (.agg #[]), .pointer (some ⟨g, 0, none⟩), .agg #[.int .i64 op, lv]] w2 fun e w' => HitAns w2 w' e count (fun j => leafT op (lits.map pS) (pS (vl_S codec wd list ends base lanes j))))) := hid (by
    intro w2 hb
    have hc2 := h.mono hb
    have hl2 := hl.mono hb
    refine ⟨fun h1 => ?_, fun h3 => ?_, fun h1 h3 => ?_⟩
    · subst h1
      rcases d with ⟨_, d1, d2⟩ | ⟨h0, _⟩ | d
      · simp only [vl_one_S]
        exact plainHits_S w2 g rows 1 wd nulls count list ends base lanes op lits lv hc2 d1 d2 hl2
      · cases h0
      · have := d.cd; omega
    · subst h3
      rcases d with ⟨h0, _⟩ | ⟨_, d1, d2, d3, d4, d5⟩ | d
      · cases h0
      · simp only [vl_three_S]
        exact runHits_S w2 g rows 3 wd nulls count list ends base lanes op lits lv hc2 d1 d2 d3 d4 d5 hl2
      · have := d.cd; omega
    · rcases d with ⟨h0, _⟩ | ⟨h0, _⟩ | d
      · exact absurd h0 h1
      · exact absurd h0 h3
      · exact laneHits_S w2 g rows codec wd nulls count list ends base lanes op lits lv hc2 (hT.mono hb hT.lt) d hl2 hlr)
  obtain ⟨A, c, rfl, _, _, _⟩ := hl.rd.form
  obtain ⟨nu, v5, ev, nv, bef, hr, _⟩ := h.ex
  have HB0 := hid ((brefl w).alloc (Nat.le_refl _) (.cells #[.int .i64 op, .slice A lits.length c] 106))
  have HRT : Hid (Row (w.alloc (.cells #[.int .i64 op, .slice A lits.length c] 106)) w.heap.size 106 [.int .i64 op, .slice A lits.length c]) := hid (by unfold Row; rw [heap_alloc_new])
  have HR0 := hid (hr.mono HB0.out)
  generalize (fun j => leafT op (lits.map pS) (pS (vl_S codec wd list ends base lanes j))) = F at *
  clear h hT d hl hlr hr
  by_cases h1 : codec = 1
  · subst h1
    go_enter Tryz.func54, Tryz.ntmps54
    go_upto_region 1 with fail
    generalize w.alloc (.cells #[.int .i64 op, .slice A lits.length c] 106) = w0 at *
    obtain ⟨k0, k1⟩ := cellP HRT.out
    have k2 : w0.cell? ⟨g, 0 + 1, none⟩ = some (.int .i64 1) := by rw [HR0.out.cell]; rfl
    have HX := hid ((HANS.out w0 HB0.out).1 rfl)
    go_wp2_with (go_at_call 100; refine HX.out.mono ?_; rintro e w5 ⟨r, zs, rfl, h1, h2, h3⟩; have H1 := hid h1; have H2 := hid h2; have H3 := hid h3; clear h1 h2 h3 k0 k1 k2)
    go_ret
    exact ⟨r, zs, rfl, H1.out, H2.out, bthen HB0.out H3.out⟩
  · by_cases h3 : codec = 3
    · subst h3
      go_enter Tryz.func54, Tryz.ntmps54
      go_upto_region 1 with fail
      generalize w.alloc (.cells #[.int .i64 op, .slice A lits.length c] 106) = w0 at *
      obtain ⟨k0, k1⟩ := cellP HRT.out
      have k2 : w0.cell? ⟨g, 0 + 1, none⟩ = some (.int .i64 3) := by rw [HR0.out.cell]; rfl
      have HX := hid ((HANS.out w0 HB0.out).2.1 rfl)
      go_wp2_with (go_at_call 101; refine HX.out.mono ?_; rintro e w5 ⟨r, zs, rfl, h1, h2, h3⟩; have H1 := hid h1; have H2 := hid h2; have H3 := hid h3; clear h1 h2 h3 k0 k1 k2)
      go_ret
      exact ⟨r, zs, rfl, H1.out, H2.out, bthen HB0.out H3.out⟩
    · have h1b : ((codec : Int) == 1) = false := beq_eq_false_iff_ne.2 (by omega)
      have h3b : ((codec : Int) == 3) = false := beq_eq_false_iff_ne.2 (by omega)
      have h1i : ¬ (codec : Int) = 1 := by omega
      have h3i : ¬ (codec : Int) = 3 := by omega
      have HX0 := hid (fun w2 hb => (HANS.out w2 hb).2.2 h1 h3)
      clear HANS h1 h3
      go_enter Tryz.func54, Tryz.ntmps54
      go_upto_region 1 with fail
      generalize w.alloc (.cells #[.int .i64 op, .slice A lits.length c] 106) = w0 at *
      obtain ⟨k0, k1⟩ := cellP HRT.out
      have k2 : w0.cell? ⟨g, 0 + 1, none⟩ = some (.int .i64 codec) := by rw [HR0.out.cell]; rfl
      have HX := hid (HX0.out w0 HB0.out)
      go_wp2_with (go_at_call 102; refine HX.out.mono ?_; rintro e w5 ⟨r, zs, rfl, h1, h2, h3⟩; have H1 := hid h1; have H2 := hid h2; have H3 := hid h3; clear h1 h2 h3 k0 k1 k2)
      go_ret
      exact ⟨r, zs, rfl, H1.out, H2.out, bthen HB0.out H3.out⟩
end Go.Proofs.YthonbfojpbfmgaaGreatDoor

/- Package kernel: filter of one kind (strings). -/
set_option linter.unusedVariables false
set_option linter.unusedSimpArgs false
set_option linter.unnecessarySimpa false
set_option maxRecDepth 100000
namespace Go.Proofs.YthonbfojpbfmgaaGreatDoor
open Go.RowKit

/-- what a row holds that is not NULL -/
def rowV_S (rows : Nat) (xs : List Nat) (r : Nat) : ByteArray := vAt_S rows xs (r - rankN (headOf rows xs).nulls (r + 1))

/-- what a body that is valid has, for a filter -/
structure FilD_S (rows : Nat) (xs : List Nat) : Prop where
  pk : okPack 1 rows (headOf rows xs).nulls = true
  hd : HitD_S (headOf rows xs).codec (headOf rows xs).wd (cntOf rows (headOf rows xs).nulls) (lkOut_S rows xs).list (lkOut_S rows xs).ends (lkBase_S rows xs) (lkOut_S rows xs).lanes
theorem upS_of {D : List ByteArray} (h : (D.map pS).Pairwise (fun a b => gtP b a)) : ∀ a b, a < b → b < D.length → ltS (D.getD a ByteArray.empty) (D.getD b ByteArray.empty) = true := by
  intro a b h1 h2
  rw [List.pairwise_map] at h
  have h3 := List.pairwise_iff_getElem.1 h a b (by omega) h2 h1
  simp only [List.getD, List.getElem?_eq_getElem h2, List.getElem?_eq_getElem (show a < D.length by omega), Option.getD_some]
  unfold gtP pS at h3
  rcases h3 with h3 | ⟨_, h3⟩
  · exact absurd h3 (by simp)
  · exact h3
theorem lits_ok_S {op col : Int} {args : List C3} (h : leafOk 2 ⟨op, col, args⟩ = true) (h9 : op ≠ 9) (hal : args.length ≤ 1048576) :
    litsOk op (litsS op (args.map C3.s)).length ∧ (op = 7 → ∀ a b, a < b → b < (litsS op (args.map C3.s)).length → ltS ((litsS op (args.map C3.s)).getD a ByteArray.empty) ((litsS op (args.map C3.s)).getD b ByteArray.empty) = true) ∧ (litsS op (args.map C3.s)).length ≤ 1048576 := by
  have hd := dictS_le (args.map C3.s)
  rw [List.length_map] at hd
  unfold leafOk takesB at h
  simp only [Bool.and_eq_true] at h
  obtain ⟨⟨h1, _⟩, _⟩ := h
  unfold litsOk litsS
  by_cases h7 : op = 7
  · subst h7
    rw [if_pos rfl]
    exact ⟨⟨by omega, by omega, fun h => absurd h (by omega), fun h => absurd h (by omega)⟩, fun _ => upS_of (dictS_spec _).1, by omega⟩
  · rw [if_neg h7, List.length_map]
    rw [if_neg h7] at h1
    by_cases h8 : op = 8
    · rw [if_pos h8] at h1
      simp only [decide_eq_true_eq] at h1
      exact ⟨⟨by omega, by omega, fun h => absurd h (by omega), fun _ => h1⟩, fun h => absurd h h7, hal⟩
    · rw [if_neg h8, if_neg h9] at h1
      simp only [Bool.and_eq_true, decide_eq_true_eq] at h1
      exact ⟨⟨by omega, by omega, fun _ => h1.2, fun h => absurd h h8⟩, fun h => absurd h h7, hal⟩
theorem litsS_mem {op : Int} {xs : List ByteArray} {x : ByteArray} (h : x ∈ litsS op xs) : x ∈ xs := by
  unfold litsS at h
  split at h
  · obtain ⟨y, hy, he⟩ := List.mem_map.1 (((dictS_spec xs).2 (pS x)).1 (List.mem_map.2 ⟨x, h, rfl⟩))
    have : y = x := by unfold pS at he; injection he
    rw [← this]; exact hy
  · exact h
/-- the rows that are TRUE, and those that are UNKNOWN -/
def filT_S (op : Int) (args : List C3) (rows : Nat) (xs : List Nat) (r : Nat) : Bool := if op = 9 then bitOf (headOf rows xs).nulls r else !bitOf (headOf rows xs).nulls r && leafT op ((args.map C3.s).map pS) (pS (rowV_S rows xs r))

set_option maxHeartbeats 8000000 in
theorem filter_S (w : World) (v av : Value) (xs : List Nat) (rows : Nat) (op col : Int) (args : List C3) (hT : Tab w) (hv : Rd w v xs.length 1 (u8s xs)) (hb : ∀ x ∈ xs, x < 256) (hl : xs.length ≤ 16777216) (hrr : rows ≤ 65536)
    (hx : Rd w av args.length 3 (cells3 args)) (hal : args.length ≤ 1048576) (har : ∀ c ∈ args, okL_S c.s) (hval : lkOk_S rows xs = true → FilD_S rows xs) :
    Calls Tryz.prog 29 #[.iface 66 (.agg #[]), .int .i64 rows, v, .agg #[.int .i64 op, .int .i64 col, av]] w fun e w' =>
      (lkOk_S rows xs = false ∧ FilErr w e w' 1) ∨ (lkOk_S rows xs = true ∧ leafOk 2 ⟨op, col, args⟩ = false ∧ FilErr w e w' 2) ∨
      (lkOk_S rows xs = true ∧ leafOk 2 ⟨op, col, args⟩ = true ∧ FilSays w e w' rows (filT_S op args rows xs) (filU op rows xs)) := by
  have HLK := hid (fun (w2 : World) (h : Below w.heap.size w w2) => Look_S w2 v xs rows (hT.mono h hT.lt) (hv.mono h) hb hl hrr)
  have HLF := hid (fun (w2 : World) (h : Below w.heap.size w w2) => isLeaf_any 2 op col av args w2 (hx.mono h))
  obtain ⟨A0, c0, rfl, _, _, _⟩ := hv.form
  obtain ⟨A1, ca, rfl, _, _, _⟩ := hx.form
  have HX := hid hx
  have HT := hid hT
  have HVAL := hid hval
  have HAR := hid har
  clear hT hv hx hval har
  obtain ⟨n, hn⟩ : ∃ n, args.length = n := ⟨_, rfl⟩
  have HN := hid hn
  simp only [hn] at HX HLF hal ⊢
  have HB0 := hid (((brefl w).alloc (Nat.le_refl _) (.cells #[.int .i64 op, .int .i64 col, .slice A1 n ca] 25)).alloc (by simp) (.cells #[.slice none 0 0, .slice none 0 0] 30))
  have HRN : Hid (Row ((w.alloc (.cells #[.int .i64 op, .int .i64 col, .slice A1 n ca] 25)).alloc (.cells #[.slice none 0 0, .slice none 0 0] 30)) w.heap.size 25 [.int .i64 op, .int .i64 col, .slice A1 n ca]) := hid (by
    have h1 : Row (w.alloc (.cells #[.int .i64 op, .int .i64 col, .slice A1 n ca] 25)) w.heap.size 25 [.int .i64 op, .int .i64 col, .slice A1 n ca] := by unfold Row; rw [heap_alloc_new]
    exact h1.mono ((brefl _).alloc (Nat.le_refl _) _))
  have HRP : Hid (Row ((w.alloc (.cells #[.int .i64 op, .int .i64 col, .slice A1 n ca] 25)).alloc (.cells #[.slice none 0 0, .slice none 0 0] 30)) (w.heap.size + 1) 30 [.slice none 0 0, .slice none 0 0]) := hid (by
    have e : w.heap.size + 1 = (w.alloc (.cells #[.int .i64 op, .int .i64 col, .slice A1 n ca] 25)).heap.size := by simp
    rw [e]; unfold Row; rw [heap_alloc_new])
  have HSZ : Hid (((w.alloc (.cells #[.int .i64 op, .int .i64 col, .slice A1 n ca] 25)).alloc (.cells #[.slice none 0 0, .slice none 0 0] 30)).heap.size = w.heap.size + 2) := hid (by simp)
  have hnum := m_Number_S
  go_enter Tryz.func29, Tryz.ntmps29
  go_upto_region 1 with fail
  generalize (w.alloc (.cells #[.int .i64 op, .int .i64 col, .slice A1 n ca] 25)).alloc (.cells #[.slice none 0 0, .slice none 0 0] 30) = w0 at *
  go_wp2_with fail
  refine (HLK.out w0 HB0.out).mono ?_
  rintro e w1 ⟨hb1, ⟨h0, rfl⟩ | ⟨h0, nu, lv, ev, nv, bef, rfl, h1, h2, h3, h4, h5⟩⟩
  · have H0 := hid h0
    clear h0
    have HB1 := hid hb1
    have HB2 := hid (hb1.alloc hb1.size (.cells zeroCk_S.toArray 94))
    unfold zeroCk_S i64 nilS at HB2 ⊢
    have HRP2 := hid (HRP.out.mono HB2.out)
    clear hnum HLF HX HT HLK
    have z0 := HRP2.out.cell 0
    have z1 := HRP2.out.cell 1
    have f0 := HRP2.out.frozen 0
    have f1 := HRP2.out.frozen 1
    clear hb1
    go_wp2_with fail
    have HBF := hid (below_set (below_set (HB0.out.trans (HB2.out.mono HB0.out.size)) (w.heap.size + 1) 0 (.slice none 0 0) (by omega)) (w.heap.size + 1) 1 (.slice none 0 0) (by omega))
    have HRF := hid ((HRP2.out.set 0 (.slice none 0 0)).set 1 (.slice none 0 0))
    refine bodyPost_ret (v := .tuple #[.agg #[.slice none 0 0, .slice none 0 0], .int .i64 1]) ?_ rfl (.inl ⟨H0.out, rfl, HBF.out⟩)
    have y0 := HRF.out.cell 0
    have y1 := HRF.out.cell 1
    simp at y0 y1
    simp [results, Tryz.results29, go_sem, y0, y1]
  · have H0 := hid h0
    clear h0
    have HB1 := hid hb1
    have hsz1 : w0.heap.size ≤ w1.heap.size := hb1.size
    have HCK := hid (@ck_laid_S w1 rows xs nu lv ev nv bef (owns_rd h1) h2 h3 h4 h5)
    have HNU := hid h1
    obtain ⟨A2, c2, rfl, _, _, _⟩ := (owns_rd h1).form
    obtain ⟨A3, c3, rfl, _, _, _⟩ := h2.form
    obtain ⟨A4, c4, rfl, _, _, _⟩ := h3.form
    obtain ⟨A5, c5, rfl, _, _, _⟩ := h4.form
    obtain ⟨A6, c6, rfl, _, _, _⟩ := h5.form
    have HB2 : Hid (Below w0.heap.size w0 (w1.alloc (.cells (ck_S rows (headOf rows xs).codec (headOf rows xs).wd (.slice A2 (headOf rows xs).nulls.length c2) (cntOf rows (headOf rows xs).nulls) (.slice A3 (lkOut_S rows xs).list.length c3) (.slice A4 (lkOut_S rows xs).ends.length c4) (lkBase_S rows xs) (.slice A5 (lkOut_S rows xs).lanes.length c5) kind_S (.slice A6 (headOf rows xs).nulls.length c6)).toArray 94))) := hid (hb1.alloc hb1.size _)
    have HNU2 := hid (owns_below HNU.out ((brefl w1).alloc (Nat.le_refl _) (.cells (ck_S rows (headOf rows xs).codec (headOf rows xs).wd (.slice A2 (headOf rows xs).nulls.length c2) (cntOf rows (headOf rows xs).nulls) (.slice A3 (lkOut_S rows xs).list.length c3) (.slice A4 (lkOut_S rows xs).ends.length c4) (lkBase_S rows xs) (.slice A5 (lkOut_S rows xs).lanes.length c5) kind_S (.slice A6 (headOf rows xs).nulls.length c6)).toArray 94)))
    have HRC : Hid (Row (w1.alloc (.cells (ck_S rows (headOf rows xs).codec (headOf rows xs).wd (.slice A2 (headOf rows xs).nulls.length c2) (cntOf rows (headOf rows xs).nulls) (.slice A3 (lkOut_S rows xs).list.length c3) (.slice A4 (lkOut_S rows xs).ends.length c4) (lkBase_S rows xs) (.slice A5 (lkOut_S rows xs).lanes.length c5) kind_S (.slice A6 (headOf rows xs).nulls.length c6)).toArray 94)) w1.heap.size 94 (ck_S rows (headOf rows xs).codec (headOf rows xs).wd (.slice A2 (headOf rows xs).nulls.length c2) (cntOf rows (headOf rows xs).nulls) (.slice A3 (lkOut_S rows xs).list.length c3) (.slice A4 (lkOut_S rows xs).ends.length c4) (lkBase_S rows xs) (.slice A5 (lkOut_S rows xs).lanes.length c5) kind_S (.slice A6 (headOf rows xs).nulls.length c6))) := hid (by unfold Row; rw [heap_alloc_new])
    have HPK := hid ((HVAL.out H0.out).pk)
    have HHD := hid ((HVAL.out H0.out).hd)
    clear h1 h2 h3 h4 h5 hb1 HLK HNU HVAL
    have HKK : Hid (cntOf rows (headOf rows xs).nulls ≤ rows ∧ cntOf rows (headOf rows xs).nulls + rankN (headOf rows xs).nulls rows = rows) := hid (by have := rankN_le (headOf rows xs).nulls rows; unfold cntOf; omega)
    generalize cntOf rows (headOf rows xs).nulls = kk at *
    generalize hH : headOf rows xs = H at *
    generalize hO : lkOut_S rows xs = O at *
    generalize hbs : lkBase_S rows xs = bs at *
    have HH := hid hH
    have HO := hid hO
    have HBSE := hid hbs
    clear hH hO hbs
    have HRCk := HRC
    unfold ck_S i64 kind_S at HB2 HNU2 HRC HCK ⊢
    go_upto_region 4 with fail
    generalize w1.alloc (.cells #[.int .i64 rows, .int .i64 H.codec, .int .i64 H.wd, .slice A2 H.nulls.length c2, .int .i64 kk, .slice A3 O.list.length c3, .slice A4 O.ends.length c4, .int .i64 bs, .slice A5 O.lanes.length c5, .iface 66 (.agg #[]), .slice A6 H.nulls.length c6] 94) = w2 at *
    have HW2 := hid (HB0.out.trans (HB2.out.mono HB0.out.size))
    have HRN2 := hid (HRN.out.mono HB2.out)
    obtain ⟨k0, k1, k2⟩ := cell3 HRN2.out
    have hgl : w.heap.size < w2.heap.size := HRN2.out.lt
    obtain ⟨ok, hok⟩ : ∃ ok, leafOk 2 ⟨op, col, args⟩ = ok := ⟨_, rfl⟩
    have HOK := hid hok
    rw [hok] at HLF
    clear hok
    cases ok
    · go_region_held3 (fun w' => w'.cell? ⟨w.heap.size, 0, none⟩ = some (.int .i64 op) ∧ w'.cell? ⟨w.heap.size, 1, none⟩ = some (.int .i64 col) ∧ w'.cell? ⟨w.heap.size, 2, none⟩ = some (.slice A1 n ca)) (go_keep)
        (first
          | (go_at_call 266; refine (StrsNumber_any _).mono ?_; rintro e w3 ⟨rfl, hb3⟩; have HB3 := hid ((bdrew (brefl w2) 1).trans hb3); have m0 := (HB3.out.cell (p := ⟨w.heap.size, 0, none⟩) hgl).trans k0; have m1 := (HB3.out.cell (p := ⟨w.heap.size, 1, none⟩) hgl).trans k1; have m2 := (HB3.out.cell (p := ⟨w.heap.size, 2, none⟩) hgl).trans k2; have hgl3 : w.heap.size < w3.heap.size := Nat.lt_of_lt_of_le hgl HB3.out.size; clear hb3)
          | (go_at_call 50; refine (HLF.out _ (bthen HW2.out HB3.out)).mono ?_; rintro e w4 ⟨rfl, hb4⟩; have HB4 := hid hb4; have q0 := (hb4.cell (p := ⟨w.heap.size, 0, none⟩) hgl3).trans m0; have q1 := (hb4.cell (p := ⟨w.heap.size, 1, none⟩) hgl3).trans m1; have q2 := (hb4.cell (p := ⟨w.heap.size, 2, none⟩) hgl3).trans m2; clear hb4))
      have HB5 := hid (bthen (bthen HB2.out HB3.out) HB4.out)
      have HRP5 := hid (HRP.out.mono HB5.out)
      have z0 := HRP5.out.cell 0
      have z1 := HRP5.out.cell 1
      have f0 := HRP5.out.frozen 0
      have f1 := HRP5.out.frozen 1
      clear q0 q1 q2 m0 m1 m2 k0 k1 k2 HLF HRN2 HRC HRCk HNU2 hgl3 hgl
      go_wp2_with fail
      have HBF := hid (below_set (below_set (HB0.out.trans (HB5.out.mono HB0.out.size)) (w.heap.size + 1) 0 (.slice none 0 0) (by omega)) (w.heap.size + 1) 1 (.slice none 0 0) (by omega))
      have HRF := hid ((HRP5.out.set 0 (.slice none 0 0)).set 1 (.slice none 0 0))
      refine bodyPost_ret (v := .tuple #[.agg #[.slice none 0 0, .slice none 0 0], .int .i64 2]) ?_ rfl (.inr (.inl ⟨H0.out, HOK.out, rfl, HBF.out⟩))
      have y0 := HRF.out.cell 0
      have y1 := HRF.out.cell 1
      simp at y0 y1
      simp [results, Tryz.results29, go_sem, y0, y1]
    · go_region_held3 (fun w' => w'.cell? ⟨w.heap.size, 0, none⟩ = some (.int .i64 op) ∧ w'.cell? ⟨w.heap.size, 1, none⟩ = some (.int .i64 col) ∧ w'.cell? ⟨w.heap.size, 2, none⟩ = some (.slice A1 n ca)) (go_keep)
        (first
          | (go_at_call 266; refine (StrsNumber_any _).mono ?_; rintro e w3 ⟨rfl, hb3⟩; have HB3 := hid ((bdrew (brefl w2) 1).trans hb3); have m0 := (HB3.out.cell (p := ⟨w.heap.size, 0, none⟩) hgl).trans k0; have m1 := (HB3.out.cell (p := ⟨w.heap.size, 1, none⟩) hgl).trans k1; have m2 := (HB3.out.cell (p := ⟨w.heap.size, 2, none⟩) hgl).trans k2; have hgl3 : w.heap.size < w3.heap.size := Nat.lt_of_lt_of_le hgl HB3.out.size; clear hb3)
          | (go_at_call 50; refine (HLF.out _ (bthen HW2.out HB3.out)).mono ?_; rintro e w4 ⟨rfl, hb4⟩; have HB4 := hid hb4; have q0 := (hb4.cell (p := ⟨w.heap.size, 0, none⟩) hgl3).trans m0; have q1 := (hb4.cell (p := ⟨w.heap.size, 1, none⟩) hgl3).trans m1; have q2 := (hb4.cell (p := ⟨w.heap.size, 2, none⟩) hgl3).trans m2; clear hb4))
      have HB5 := hid (bthen (bthen HB2.out HB3.out) HB4.out)
      have HRP5 := hid (HRP.out.mono HB5.out)
      by_cases h9 : op = 9
      · subst h9
        have HB45 := hid (bthen HB3.out HB4.out)
        have HRC5 := hid (HRC.out.mono HB45.out)
        have HNU5 := hid (owns_below HNU2.out HB45.out)
        have z0 := HRP5.out.cell 0
        have z1 := HRP5.out.cell 1
        have f0 := HRP5.out.frozen 0
        have f1 := HRP5.out.frozen 1
        have x3 : w4.cell? ⟨w1.heap.size, 3, none⟩ = some (.slice A2 H.nulls.length c2) := by rw [HRC5.out.cell]; rfl
        have hpg : w1.heap.size ≠ w.heap.size + 1 := by have := hsz1; have := HSZ.out; omega
        have hg4 : w1.heap.size < w4.heap.size := HRC5.out.lt
        clear m0 m1 m2 k0 k1 k2 HLF HRN2 HRC HRCk HNU2 hgl3 hgl
        go_upto_region 7 with fail
        clear q0 q1 q2
        have HNB := hid (fun w2 => newBitmap_any rows w2 (by omega))
        go_region_held3 (fun w' => w'.cell? ⟨w1.heap.size, 3, none⟩ = some (.slice A2 H.nulls.length c2)) (first | go_keep | (rw [cell_setP _ _ _ _ _ _ hpg]; assumption))
          (first
            | (go_at_call 51; refine (HNB.out _).mono ?_; rintro e w6 ⟨rfl, hr6, hb6, hs6⟩; have HB6 := hid ((bdrew (brefl w4) 1).trans hb6); have HR6 := hid hr6; have HS6 := hid hs6; have x36 := (HB6.out.cell (p := ⟨w1.heap.size, 3, none⟩) hg4).trans x3; have HRP6 := hid (HRP5.out.mono HB6.out); have z60 := HRP6.out.cell 0; have z61 := HRP6.out.cell 1; have f60 := HRP6.out.frozen 0; have f61 := HRP6.out.frozen 1; clear hr6 hb6 hs6))
        have HNU6 := hid (owns_below HNU5.out HB6.out)
        have HB5' := hid (HB0.out.trans (HB5.out.mono HB0.out.size))
        have HB6' := hid (HB5'.out.trans (HB6.out.mono HB5'.out.size))
        have hs4 : w.heap.size + 1 < w4.heap.size := HRP5.out.lt
        clear x3 x36 z0 z1 f0 f1
        go_wp2_with fail
        clear z60 z61 f60 f61
        have HCF := hid (((Chg.refl (w.heap.size + 1) (w.heap.size + 1) w6).setCell (w.heap.size + 1) 0 (.slice A2 H.nulls.length c2) (.inl rfl)).setCell (w.heap.size + 1) 1 (.slice (some ⟨w4.heap.size, 0, none⟩) ((rows + 63) / 64) ((rows + 63) / 64)) (.inl rfl))
        have HBF := hid (below_set (below_set HB6'.out (w.heap.size + 1) 0 (.slice A2 H.nulls.length c2) (by omega)) (w.heap.size + 1) 1 (.slice (some ⟨w4.heap.size, 0, none⟩) ((rows + 63) / 64) ((rows + 63) / 64)) (by omega))
        have HRF := hid ((HRP6.out.set 0 (.slice A2 H.nulls.length c2)).set 1 (.slice (some ⟨w4.heap.size, 0, none⟩) ((rows + 63) / 64) ((rows + 63) / 64)))
        have hBT := pack_bits hrr HPK.out
        have hzz : BitsOf rows (fun _ => false) (List.replicate ((rows + 63) / 64) 0) := by
          have hh := BitsTo.start rows (fun _ => false)
          exact ⟨hh.1, hh.2.1, fun i => by rw [hh.2.2]; simp⟩
        have hOU : w6.ownsRow w4.heap.size 40 1 (.slice (some ⟨w4.heap.size, 0, none⟩) ((rows + 63) / 64) ((rows + 63) / 64)) ((rows + 63) / 64) (u64s (List.replicate ((rows + 63) / 64) 0)) := HR6.out.owns (Nat.le_refl _) (by simp [u64s]) (by unfold maxLen; omega)
        have hz0 := HSZ.out
        have hOT : w6.ownsRow w0.heap.size 40 1 (.slice A2 H.nulls.length c2) ((rows + 63) / 64) (u64s H.nulls) := by
          rw [← hBT.1]; exact HNU6.out
        have hT2 := owns_low (B' := w.heap.size) (owns_chg hOT HCF.out (by omega) (by omega)) (by omega)
        have hU2 := owns_low (B' := w.heap.size) (owns_chg hOU HCF.out (by omega) (by omega)) (by omega)
        refine bodyPost_ret (v := .tuple #[.agg #[.slice A2 H.nulls.length c2, .slice (some ⟨w4.heap.size, 0, none⟩) ((rows + 63) / 64) ((rows + 63) / 64)], .int .i64 0]) ?_ rfl (.inr (.inr ⟨H0.out, HOK.out, _, _, H.nulls, _, rfl, ?_, ?_, hT2, hU2, ?_, HBF.out⟩))
        · have y0 := HRF.out.cell 0
          have y1 := HRF.out.cell 1
          simp at y0 y1
          simp [results, Tryz.results29, go_sem, y0, y1]
        · refine ⟨hBT.1, hBT.2.1, fun i => ?_⟩
          rw [hBT.2.2]; unfold filT_S; rw [if_pos rfl, HH.out]
        · refine ⟨hzz.1, hzz.2.1, fun i => ?_⟩
          rw [hzz.2.2]; unfold filU; rw [if_pos rfl]
        · intro k hk1 hk2
          have := (HNU5.out.lt k hk1).2
          injection hk2 with hk2
          have hk3 : w4.heap.size = k := hk2
          omega
      · have h9b : (op == 9) = false := beq_eq_false_iff_ne.2 h9
        have HB45 := hid (bthen HB3.out HB4.out)
        have HRC5 := hid (HRC.out.mono HB45.out)
        have HNU5 := hid (owns_below HNU2.out HB45.out)
        have HCK4 := hid (HCK.out.mono HB45.out)
        have HB5' := hid (HB0.out.trans (HB5.out.mono HB0.out.size))
        have hBT := pack_bits hrr HPK.out
        have HBT := hid hBT
        have HT4 := hid (HT.out.mono HB5'.out HT.out.lt)
        have HPS := hid (null_bits hrr HPK.out)
        have HX4 := hid (HX.out.mono HB5'.out)
        have HCMP := hid (Compare_any (.slice A2 H.nulls.length c2) H.nulls 1 rows 1 0 w4 HT4.out (owns_rd HNU5.out) hBT.2.1 (by omega) (by rw [hBT.1]; unfold maxLen; omega))
        have HTO := hid (fun (w5 : World) (h : Below w4.heap.size w4 w5) => testOfS_any op col (.slice A1 n ca) args w5 (by rw [HN.out]; exact HX4.out.mono h) (by rw [HN.out]; exact hal))
        have HLT := hid (lits_ok_S HOK.out h9 (by rw [HN.out]; exact hal))
        have HHO := hid (fun (w6 : World) (lv : Value) (h : Below w4.heap.size w4 w6) (hr : Rd w6 lv (litsS op (args.map C3.s)).length 1 (strs (litsS op (args.map C3.s)))) =>
          hitsOf_S w6 w1.heap.size rows H.codec H.wd H.nulls kk O.list O.ends bs O.lanes op (litsS op (args.map C3.s)) lv (HCK4.out.mono h) (HT4.out.mono h HT4.out.lt) HHD.out ⟨hr, HLT.out.1, HLT.out.2.1, HLT.out.2.2⟩
            (fun x hx => by obtain ⟨c, hc, rfl⟩ := List.mem_map.1 (litsS_mem hx); exact HAR.out c hc))
        have HEX := hid (fun (w7 : World) (u v : Value) (zs : List Nat) (h : Below w4.heap.size w4 w7) (h1 : Rd w7 u (cmpR 1 rows 1 H.nulls 0).length 1 (u64s (cmpR 1 rows 1 H.nulls 0))) (h2 : Rd w7 v zs.length 1 (u64s zs)) (h3 : ∀ x ∈ zs, x < 18446744073709551616) (h4 : zs.length ≤ 1048576) =>
          Expand_any u v (cmpR 1 rows 1 H.nulls 0) zs rows w7 (HT4.out.mono h HT4.out.lt) h1 h2 HPS.out.2.1 h3 (by rw [HPS.out.1]; unfold maxLen; omega) (by unfold maxLen; omega))
        have x3 : w4.cell? ⟨w1.heap.size, 3, none⟩ = some (.slice A2 H.nulls.length c2) := by rw [HRC5.out.cell]; rfl
        have hg4 : w1.heap.size < w4.heap.size := HRC5.out.lt
        have hn4 : w.heap.size < w4.heap.size := by have := HRP5.out.lt; omega
        clear m0 m1 m2 k0 k1 k2 HLF HRN2 HRC HRCk HNU2 hgl3 hgl hBT hnum
        generalize cmpOk 1 rows 1 H.nulls = cok at *
        generalize cmpR 1 rows 1 H.nulls 0 = PS at *
        generalize hLS : litsS op (args.map C3.s) = LS at *
        have HLSE := hid hLS
        clear hLS
        go_upto_region 8 with fail
        go_upto_region 9 with (go_at_call 52; refine HCMP.out.mono ?_; rintro e w5 ⟨r1, rfl, h1, h2⟩; have HP1 := hid h1; have HB6 := hid h2; have t0 := (h2.cell (p := ⟨w.heap.size, 0, none⟩) hn4).trans q0; have t1 := (h2.cell (p := ⟨w.heap.size, 1, none⟩) hn4).trans q1; have t2 := (h2.cell (p := ⟨w.heap.size, 2, none⟩) hn4).trans q2; clear h1 h2)
        clear q0 q1 q2 x3 HCMP
        go_upto_region 10 with (first
          | (go_at_call 55; refine (HTO.out w5 HB6.out).mono ?_; rintro e w6 ⟨lv, rfl, h1, h2⟩; have HL1 := hid h1; have HB7 := hid (bthen HB6.out h2); have HB67 := hid h2; clear h1 h2)
          | (go_at_call 54; refine (HHO.out w6 lv HB7.out (owns_rd HL1.out)).mono ?_; rintro e w7 ⟨r2, zs, rfl, h1, h2, h3⟩; have HZ1 := hid h1; have HZ2 := hid h2; have HB8 := hid (bthen HB7.out h3); have HB78 := hid h3; clear h1 h2 h3; have HEXx := hid (HEX.out w7 r1 r2 zs HB8.out (owns_rd (owns_below (owns_below HP1.out HB67.out) HB78.out)) (by rw [HZ1.out.1]; exact HZ2.out) HZ1.out.2.1 (by rw [HZ1.out.1]; have := HKK.out; omega)))
          | (go_at_call 53; refine HEXx.out.mono ?_; rintro e w8 ⟨r3, rfl, h1, h2⟩; have HE1 := hid h1; have HB9 := hid (bthen HB8.out h2); have HB89 := hid h2; clear h1 h2))
        have HEB := hid (exp_bits hrr HKK.out.2 HPS.out HZ1.out)
        obtain ⟨A7, c7, rfl, _⟩ := owns_form HE1.out
        have HRC8 := hid (HRC5.out.mono HB9.out)
        have HRP8 := hid (HRP5.out.mono HB9.out)
        have HNU8 := hid (owns_below HNU5.out HB9.out)
        have x3 : w8.cell? ⟨w1.heap.size, 3, none⟩ = some (.slice A2 H.nulls.length c2) := by rw [HRC8.out.cell]; rfl
        have z0 := HRP8.out.cell 0
        have z1 := HRP8.out.cell 1
        have f0 := HRP8.out.frozen 0
        have f1 := HRP8.out.frozen 1
        have HBW := hid (HB5'.out.trans (HB9.out.mono HB5'.out.size))
        have hs4 : w.heap.size + 1 < w4.heap.size := HRP5.out.lt
        have hs47 : w4.heap.size ≤ w7.heap.size := HB8.out.size
        have hz0 := HSZ.out
        obtain ⟨R, hR⟩ : ∃ R, expR rows PS zs = R := ⟨_, rfl⟩
        simp only [hR] at HE1 HEB ⊢
        obtain ⟨m, hm⟩ : ∃ m, R.length = m := ⟨_, rfl⟩
        simp only [hm] at HE1 ⊢
        have HM := hid hm
        clear hR hm t0 t1 t2
        go_wp2_with fail
        clear z0 z1 f0 f1 x3
        have HCF := hid (((Chg.refl (w.heap.size + 1) (w.heap.size + 1) w8).setCell (w.heap.size + 1) 0 (.slice A7 m c7) (.inl rfl)).setCell (w.heap.size + 1) 1 (.slice A2 H.nulls.length c2) (.inl rfl))
        have HBF := hid (below_set (below_set HBW.out (w.heap.size + 1) 0 (.slice A7 m c7) (by omega)) (w.heap.size + 1) 1 (.slice A2 H.nulls.length c2) (by omega))
        have HRF := hid ((HRP8.out.set 0 (.slice A7 m c7)).set 1 (.slice A2 H.nulls.length c2))
        have hm2 : m = (rows + 63) / 64 := by rw [← HM.out]; exact HEB.out.1
        have hOT : w8.ownsRow w7.heap.size 40 1 (.slice A7 m c7) ((rows + 63) / 64) (u64s R) := by rw [← hm2]; exact HE1.out
        have hOU : w8.ownsRow w0.heap.size 40 1 (.slice A2 H.nulls.length c2) ((rows + 63) / 64) (u64s H.nulls) := by
          rw [← HBT.out.1]; exact HNU8.out
        have hT2 := owns_low (B' := w.heap.size) (owns_chg hOT HCF.out (by omega) (by omega)) (by omega)
        have hU2 := owns_low (B' := w.heap.size) (owns_chg hOU HCF.out (by omega) (by omega)) (by omega)
        refine bodyPost_ret (v := .tuple #[.agg #[.slice A7 m c7, .slice A2 H.nulls.length c2], .int .i64 0]) ?_ rfl (.inr (.inr ⟨H0.out, HOK.out, _, _, R, H.nulls, rfl, ?_, ?_, hT2, hU2, ?_, HBF.out⟩))
        · have y0 := HRF.out.cell 0
          have y1 := HRF.out.cell 1
          simp at y0 y1
          simp [results, Tryz.results29, go_sem, y0, y1]
        · refine ⟨HEB.out.1, HEB.out.2.1, fun i => ?_⟩
          rw [HEB.out.2.2]; unfold filT_S rowV_S vAt_S; rw [if_neg h9, HH.out, HO.out, HBSE.out, ← HLSE.out]; simp only [leafT_litsS]
        · refine ⟨HBT.out.1, HBT.out.2.1, fun i => ?_⟩
          rw [HBT.out.2.2]; unfold filU; rw [if_neg h9, HH.out]
        · intro k hk1 hk2
          have h1 := (HNU5.out.lt k hk2).2
          have h2 := (HE1.out.lt k hk1).1
          omega
end Go.Proofs.YthonbfojpbfmgaaGreatDoor
