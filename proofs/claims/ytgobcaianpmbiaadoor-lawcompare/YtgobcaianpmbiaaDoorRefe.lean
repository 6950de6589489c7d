/- The plain answer's Compare. -/
import Derived.Test.YtgobcaianpmbiaaDoorRefd
import Derived.Deep.RegionWith
import Derived.Deep.Onto
set_option linter.unusedVariables false
set_option linter.unusedSimpArgs false
set_option linter.unnecessarySimpa false
namespace Go.Proofs.YtgobcaianpmbiaaDoor
open Go.RowKit

theorem bools_append (a b : List Bool) : bools (a ++ b) = bools a ++ bools b := by simp [bools]
theorem bools_length (a : List Bool) : (bools a).length = a.length := by simp [bools]

set_option maxHeartbeats 4000000 in
theorem refCompare_any (v : Value) (xs : List Nat) (wd n op : Int) (c : Nat) (w : World) (hx : Rd w v xs.length 1 (u64s xs)) (hv : ∀ x ∈ xs, x < 18446744073709551616) (hc : c < 18446744073709551616) (hl : xs.length ≤ maxLen) :
    Calls Tryd.prog 6 #[v, .int .i64 wd, .int .i64 n, .int .i64 op, .int .u64 c] w fun e w' => ∃ r, e = .returned (.tuple #[r, .bool (cmpOk wd n op xs)]) ∧
      w'.ownsRow w.heap.size 23 1 r (cmpR wd n op xs c).length (u64s (cmpR wd n op xs c)) ∧ Below w.heap.size w w' := by
  have HUNP := hid (refUnpack_any v xs wd n w hx hv hl)
  clear hx
  by_cases hyes : cmpOk wd n op xs = true
  · have h0 := hyes
    simp only [cmpOk, isRel, okPack, okLim, Bool.and_eq_true, decide_eq_true_eq] at h0
    have hok : okPack wd n xs = true := by simp only [cmpOk, Bool.and_eq_true] at hyes; exact hyes.2
    obtain ⟨⟨ho1, ho2⟩, ⟨hin, _⟩⟩ := h0
    obtain ⟨wd, rfl⟩ := Int.eq_ofNat_of_zero_le hin.1
    obtain ⟨n, rfl⟩ := Int.eq_ofNat_of_zero_le hin.2.2.1
    have hwd : wd ≤ 64 := by omega
    have hn : n ≤ 65536 := by omega
    have hf : cmpR (wd : Int) (n : Int) op xs c = bmL ((List.range n).map (cmpF wd op xs c)) := by rw [cmpR, hyes]; rfl
    have hun : unpackR (wd : Int) (n : Int) xs = L.lanesL wd n xs := by rw [unpackR, if_pos hok]; rfl
    rw [hok, hun] at HUNP
    have HYES := hid hyes; have HF := hid hf
    have hll : (L.lanesL wd n xs).length = n := L.lanesL_length _ _ _
    have HLL := hid hll
    have HST : Hid (∀ j, j < n → ∀ b, ((List.range n).map (cmpF wd op xs c)).getD j b = standsB op ((L.lanesL wd n xs).getD j 0) c) := by
      intro j hj b
      rw [L.lanesL_get _ _ _ _ hj]
      simp [List.getD, List.getElem?_range hj, cmpF]
    have HFL : Hid (((List.range n).map (cmpF wd op xs c)).length = n) := by refine hid ?_; simp
    clear hyes hf hun hok hin hll
    generalize hvs : L.lanesL wd n xs = vs at *
    generalize hFl : (List.range n).map (cmpF wd op xs c) = fl at *
    have HVS := hid hvs
    clear hvs hFl
    go_enter Tryd.func6, Tryd.ntmps6
    go_wp2_with (go_at_call 23; refine HUNP.out.mono ?_; rintro e w2 ⟨r, rfl, ho, hb⟩; obtain ⟨A, cap, rfl, hnc, hcm, hlen, hform⟩ := owns_form ho; (have HO := hid ho); rw [HLL.out]; clear ho hlen hform)
    have HRD := hid (owns_rd HO.out)
    obtain ⟨_, _, heq, _, _, hAform⟩ := HRD.out.form
    simp only [Value.slice.injEq, true_and] at heq
    obtain ⟨rfl, rfl⟩ := heq
    refine upon_make 4 (.bool false) 1 Tryd.underlying44 Tryd.infoBool rfl n (by omega) (by omega) (by omega) (by unfold maxLen; omega) ?_
    intro w3 hrow hb1 hsz1
    have HZ1 := hid hsz1
    clear hsz1
    go_wp2
    go_loopw [40] (fun i wr => ∃ j : Nat, j ≤ n ∧ i = .int .i64 j ∧ Row wr w2.heap.size 4 (bools (fl.take j) ++ List.replicate (n - j) (.bool false)) ∧ Below w2.heap.size w2 wr) (fun i _ => n - (intOf i).toNat)
    case atStart => exact ⟨0, by omega, rfl, by simpa [bools] using hrow, hb1⟩
    case round =>
      obtain ⟨j, hj, rfl, hr, hb2⟩ := hrel
      clear hrow hb1 HZ1
      have HR := hid hr
      clear hr
      by_cases hlt : j < n
      · have hjv : j < vs.length := by have := HLL.out; omega
        obtain ⟨b, o, rfl, hs⟩ := hAform (by omega)
        have c1 := (hs.mono (hb2.mono (Nat.le_refl _))).word j hjv
        have hlb : (bools (fl.take j)).length = j := by rw [bools_length, List.length_take]; have := HFL.out; omega
        have hcell : wr.cell? ⟨w2.heap.size, j, none⟩ = some (.bool false) := by rw [HR.out.cell]; exact get_fill _ _ _ _ hlb.symm (by omega)
        have hfr := HR.out.frozen j
        have HSJ := hid (HST.out j hlt false)
        have HTK : Hid (fl.take (j + 1) = fl.take j ++ [fl.getD j false]) := by
          have h1 : j < fl.length := by have := HFL.out; omega
          refine hid ?_; rw [List.take_succ_eq_append_getElem h1]; simp [List.getD, List.getElem?_eq_getElem h1]
        have HLB := hid hlb
        clear hs hAform hlb
        generalize vs.getD j 0 = x at *
        generalize fl.getD j false = fb at *
        have done : Hid (∀ wz, wz = wr.setCell ⟨w2.heap.size, j, none⟩ (.bool fb) → Row wz w2.heap.size 4 (bools (fl.take (j + 1)) ++ List.replicate (n - (j + 1)) (.bool false)) ∧ Below w2.heap.size w2 wz) := by
          intro wz hwz
          subst hwz
          refine ⟨?_, below_set hb2 _ _ _ (Nat.le_refl _)⟩
          have hs := HR.out.set j (.bool fb)
          rw [set_fill _ _ _ _ _ HLB.out.symm (by omega)] at hs
          rw [HTK.out, bools_append, ← Nat.sub_sub n j 1]
          exact hs
        rcases Nat.lt_trichotomy x c with h1 | h1 | h1
        · have HV : Hid (standsS op (-1) = fb) := by
            have := standsS_sgn op x c ⟨ho1, ho2⟩
            rw [sgn, if_pos h1] at this
            refine hid ?_; rw [this, HSJ.out]
          go_wp2_with (go_at_call 24; refine (stands_any op _ _ ⟨ho1, ho2⟩).mono ?_; rintro e w4 ⟨rfl, rfl⟩; rw [HV.out])
          go_roundw
          case rel => exact ⟨j + 1, by omega, by go_num, (done.out _ rfl).1, (done.out _ rfl).2⟩
          case measure => simp [intOf]; omega
        · have HV : Hid (standsS op 0 = fb) := by
            have := standsS_sgn op x c ⟨ho1, ho2⟩
            rw [sgn, if_neg (by omega), if_neg (by omega)] at this
            refine hid ?_; rw [this, HSJ.out]
          have h2 : ¬ x < c := by omega
          have h3 : ¬ c < x := by omega
          clear h1
          go_wp2_with (go_at_call 24; refine (stands_any op _ _ ⟨ho1, ho2⟩).mono ?_; rintro e w4 ⟨rfl, rfl⟩; rw [HV.out])
          go_roundw
          case rel => exact ⟨j + 1, by omega, by go_num, (done.out _ rfl).1, (done.out _ rfl).2⟩
          case measure => simp [intOf]; omega
        · have HV : Hid (standsS op 1 = fb) := by
            have := standsS_sgn op x c ⟨ho1, ho2⟩
            rw [sgn, if_neg (by omega), if_pos h1] at this
            refine hid ?_; rw [this, HSJ.out]
          have h2 : ¬ x < c := by omega
          go_wp2_with (go_at_call 24; refine (stands_any op _ _ ⟨ho1, ho2⟩).mono ?_; rintro e w4 ⟨rfl, rfl⟩; rw [HV.out])
          go_roundw
          case rel => exact ⟨j + 1, by omega, by go_num, (done.out _ rfl).1, (done.out _ rfl).2⟩
          case measure => simp [intOf]; omega
      · have hjn : j = n := by omega
        have hr := HR.out
        rw [List.take_of_length_le (by have := HFL.out; omega), hjn, Nat.sub_self, List.replicate_zero, List.append_nil] at hr
        have HRR := hid hr
        clear hr
        go_wp2_with (go_at_call 25; refine (bitmapOf_any _ fl _ (by rw [HFL.out]; exact HRR.out.rd' (by rw [bools_length]; exact HFL.out) (by unfold maxLen; omega)) (by rw [HFL.out]; exact hn)).mono ?_; rintro e w5 ⟨r2, rfl, ho5, hb5⟩; have HO5 := hid ho5; have HB5 := hid hb5; clear ho5 hb5)
        go_ret2
        refine ⟨r2, by rw [HYES.out]; rfl, ?_, bthen hb (bthen hb2 HB5.out)⟩
        rw [HF.out]
        exact World.ownsRow.mono HO5.out (Nat.le_trans hb.size hb2.size)
  · have hno : cmpOk wd n op xs = false := by simpa using hyes
    have hf : cmpR wd n op xs c = [] := by rw [cmpR, hno]; rfl
    have HNO := hid hno; have HF := hid hf
    cases hok : okPack wd n xs
    · rw [hok] at HUNP
      clear hyes hno hf hok
      go_enter Tryd.func6, Tryd.ntmps6
      go_wp2_with (go_at_call 23; refine HUNP.out.mono ?_; rintro e w2 ⟨r, rfl, ho, hb⟩)
      go_ret2
      exact ⟨.slice none 0 0, by rw [HNO.out]; rfl, by rw [HF.out]; exact World.ownsRow_nil _ _ _ _, hb⟩
    · rw [hok] at HUNP
      have hop : op < 1 ∨ 6 < op := by
        have h1 := HNO.out
        simp only [cmpOk, hok, Bool.and_true, isRel, decide_eq_false_iff_not] at h1
        omega
      clear hyes hno hf hok
      go_enter Tryd.func6, Tryd.ntmps6
      go_wp2_with (go_at_call 23; refine HUNP.out.mono ?_; rintro e w2 ⟨r, rfl, ho, hb⟩)
      all_goals go_ret2
      all_goals exact ⟨.slice none 0 0, by rw [HNO.out]; rfl, by rw [HF.out]; exact World.ownsRow_nil _ _ _ _, hb⟩
end Go.Proofs.YtgobcaianpmbiaaDoor
