/- LawCompare's walk: out of the contracts of Compare, Rank, their plain answers, and the laws' helpers. -/
import Derived.Test.YtgobcaianpmbiaaDoorCmpc
import Derived.Test.YtgobcaianpmbiaaDoorRefe
import Derived.Test.YtgobcaianpmbiaaDoorRefi
import Derived.Test.YtgobcaianpmbiaaDoorSpoil
set_option linter.unusedVariables false
set_option linter.unusedSimpArgs false
set_option linter.unnecessarySimpa false
namespace Go.Proofs.YtgobcaianpmbiaaDoor
open Go.RowKit

theorem tailW_length (m : Nat) : (tailW m).length = m := by simp [tailW]
theorem row_lay {w : World} {g m : Nat} {xs : List Nat} (h : Row w g 23 (u64s (xs ++ tailW m))) (hl : xs.length + m ≤ maxLen) :
    Rd w (.slice (some ⟨g, 0, none⟩) (xs.length + m) (xs.length + m)) (xs ++ tailW m).length 1 (u64s (xs ++ tailW m)) := by
  have e : (xs ++ tailW m).length = xs.length + m := by simp [tailW_length]
  rw [e]
  exact h.rd' (by rw [u64s_length, e]) hl
theorem row_part {w : World} {g m : Nat} {xs : List Nat} (h : Row w g 23 (u64s (xs ++ tailW m))) (hl : xs.length + m ≤ maxLen) :
    Rd w (.slice (some ⟨g, 0, none⟩) xs.length (xs.length + m)) xs.length 1 (u64s xs) := by
  have := h.rd 0 xs.length (xs.length + m) (by simp [u64s]) (by omega) hl
  rw [List.drop_zero, u64s_append, ← u64s_length xs, List.take_left] at this
  rwa [u64s_length] at this
theorem cmp_isBitmap (wd n op : Int) (xs : List Nat) (c : Nat) (h : cmpOk wd n op xs = true) : okPack 1 n (cmpR wd n op xs c) = true := by
  have hnn : 0 ≤ n ∧ n ≤ 65536 := by
    simp only [cmpOk, okPack, okLim, Bool.and_eq_true, decide_eq_true_eq] at h; omega
  obtain ⟨m, rfl⟩ := Int.eq_ofNat_of_zero_le hnn.1
  rw [cmpR, if_pos h]
  refine (okPack_nat (wd := 1) (n := m) _ (by decide) (by omega)).2 ?_
  obtain ⟨h1, h2, h3⟩ := bmL_isBm ((List.range ((m : Int)).toNat).map (cmpF wd.toNat op xs c))
  simp only [List.length_map, List.length_range, Int.toNat_natCast] at h1 h3
  refine isPack_of_bits (by simpa using h1) h2 (fun i hi1 hi2 => ?_)
  rw [show ((m : Int)).toNat = m from by simp] at hi2 ⊢
  rw [h3 i hi2]
  simp [show ¬ i < m from by omega]
theorem rank_all (n : Int) (ws : List Nat) (h : okPack 1 n ws = true) : rankR n n ws = ((idxR n ws).length : Int) := by
  have hnn : 0 ≤ n ∧ n ≤ 65536 := by
    simp only [okPack, okLim, Bool.and_eq_true, decide_eq_true_eq] at h; omega
  rw [rankR, if_pos ⟨h, hnn.1, by omega⟩, idxR, if_pos h, idxN_length]
theorem idxR_le (n : Int) (ws : List Nat) : (idxR n ws).length ≤ 65536 := by
  unfold idxR
  split
  · rename_i h
    simp only [okPack, okLim, Bool.and_eq_true, decide_eq_true_eq] at h
    have := idxN_le ws n.toNat
    omega
  · simp

set_option maxHeartbeats 4000000 in
theorem lawCompare_walk (v1 : Value) (xs : List Nat) (wd n op r : Int) (c : Nat) (w : World) (ht : Tab w) (hx : Rd w v1 xs.length 1 (u64s xs))
    (hvx : ∀ x ∈ xs, x < 18446744073709551616) (hc : c < 18446744073709551616) (hlx : xs.length ≤ 17592186044416) :
    Calls Tryd.prog 3 #[v1, .int .i64 wd, .int .i64 n, .int .i64 op, .int .u64 c, .int .i64 r] w fun e w' => e = .returned (.bool true) ∧ Below w.heap.size w w' := by
  have hm := clipN_le r
  obtain ⟨m, hmr⟩ : ∃ m, clipN r = m := ⟨_, rfl⟩
  rw [hmr] at hm
  have HMR := hid hmr; have HX := hid hx; have HVX := hid hvx; have HT := hid ht
  have hM : xs.length + m ≤ maxLen := by unfold maxLen; omega
  have HM := hid hM
  have HTL := hid ht.lt
  obtain ⟨A1, c1, rfl, hc1, _, _⟩ := hx.form
  clear hmr hx hvx hM hc1 ht
  have HPL := hid (cmpR_len wd n op xs c); have HPV := hid (cmpR_lt wd n op xs c)
  have HBM := hid (cmp_isBitmap wd n op xs c)
  go_enter Tryd.func3, Tryd.ntmps3
  go_wp2_with fail
  refine (layWords_any _ xs r _ HX.out hlx).mono ?_
  rintro e w1 ⟨rfl, hr1, hb1, hz1⟩
  rw [HMR.out] at hr1 ⊢
  have HR1 := hid hr1; have HB1 := hid hb1; have HZ1 := hid hz1
  clear hr1 hb1 hz1
  go_wp2_with fail
  refine (Compare_any _ xs wd n op c _ (HT.out.mono HB1.out HTL.out) (row_part HR1.out HM.out) HVX.out hc (by unfold maxLen; omega)).mono ?_
  rintro e w2 ⟨r1, rfl, ho1, hb2⟩
  have HO1 := hid ho1; have HB2 := hid hb2
  obtain ⟨A3, c3, rfl, hc3, _, _, _⟩ := owns_form ho1
  clear ho1 hb2 hc3
  generalize hpk : cmpR wd n op xs c = pk at *
  have HPK := hid hpk
  clear hpk
  generalize hok : cmpOk wd n op xs = ok at *
  have HOK := hid hok
  clear hok
  go_wp2_with fail
  refine (refCompare_any _ xs wd n op c _ (HX.out.mono (bthen HB1.out HB2.out)) HVX.out hc (by unfold maxLen; omega)).mono ?_
  rintro e w3 ⟨r2, rfl, ho2, hb3⟩
  rw [HPK.out] at ho2
  rw [HOK.out]
  have HO2 := hid ho2; have HB3 := hid hb3
  obtain ⟨A4, c4, rfl, hc4, _, _, _⟩ := owns_form ho2
  clear ho2 hb3 hc4
  have HRD1 := hid (owns_rd (owns_below HO1.out HB3.out)); have HRD2 := hid (owns_rd HO2.out)
  have hpm : pk.length ≤ maxLen := by have := HPL.out; unfold maxLen; omega
  have HPM := hid hpm
  clear hpm
  have HB13 := hid (bthen HB1.out (bthen HB2.out HB3.out))
  have HS13 : Hid (w1.heap.size ≤ w3.heap.size) := hid (Nat.le_trans HB2.out.size HB3.out.size)
  have e1 : (ok != ok) = false := by simp
  go_wp2_with (go_at_call 7; refine (sameWords_same _ _ pk _ HRD1.out HRD2.out HPM.out).mono ?_; rintro e w4 ⟨rfl, nd, rfl⟩)
  refine (refIndexes_any _ pk n _ (HRD2.out.mono (bdrew (brefl w3) nd)) HPV.out HPM.out).mono ?_
  rintro e w5 ⟨r3, rfl, ho5, hb5⟩
  have HB5 := hid hb5
  obtain ⟨A5, c5, rfl, hc5, _, _, _⟩ := owns_form ho5
  clear ho5 hb5 hc5
  have HIL := hid (idxR_le n pk)
  have HRK := hid (fun h => rank_all n pk (HBM.out h))
  have HB35 : Hid (Below w3.heap.size w3 w5) := hid (bdrew (brefl w3) nd |>.trans HB5.out)
  generalize (idxR n pk).length = il at *
  have hil : il ≤ 65536 := HIL.out
  cases ok
  case' false =>
    go_wp2_with (go_at_call 10; refine (spoilWords_any w1.heap.size _ pk r _ (owns_below HO1.out (bthen HB3.out HB35.out)) HPV.out (Nat.le_trans HS13.out HB35.out.size) (by have := HPL.out; omega)).mono ?_; rintro e w6 ⟨⟨u, rfl⟩, hb6⟩; have HB6 := hid hb6; clear hb6)
    have HB16 : Hid (Below w1.heap.size w1 w6) := hid ((bthen HB2.out (bthen HB3.out HB35.out)).trans HB6.out)
  case' true =>
    have hrk := HRK.out rfl
    have HRA := hid (Rank_any _ pk n n w5 (HRD1.out.mono HB35.out) HPV.out HPM.out)
    rw [hrk] at HRA
    clear hrk
    go_wp2_with (first
      | (go_at_call 9; refine HRA.out.mono ?_; rintro e w5b ⟨rfl, nd5, rfl⟩)
      | (go_at_call 10; refine (spoilWords_any w1.heap.size _ pk r _ (owns_below HO1.out (bdrew (bthen HB3.out HB35.out) nd5)) HPV.out (Nat.le_trans HS13.out HB35.out.size) (by have := HPL.out; omega)).mono ?_; rintro e w6 ⟨⟨u, rfl⟩, hb6⟩; have HB6 := hid hb6; clear hb6))
    have HB16 : Hid (Below w1.heap.size w1 w6) := hid ((bdrew (bthen HB2.out (bthen HB3.out HB35.out)) nd5).trans HB6.out)
  all_goals
    have HB06 : Hid (Below w.heap.size w w6) := hid (bthen HB1.out HB16.out)
    have HR6 : Hid (Row w6 w.heap.size 23 (u64s (xs ++ tailW m))) := hid (HR1.out.below HB16.out (by have := HZ1.out; omega))
    refine (layWords_any _ xs r _ (HX.out.mono HB06.out) hlx).mono ?_
    rintro e w7 ⟨rfl, hr7, hb7, hz7⟩
    rw [HMR.out] at hr7 ⊢
    have HR7 := hid hr7; have HB7 := hid hb7
    clear hr7 hb7 hz7
    go_wp2_with fail
    refine (sameWords_same _ _ (xs ++ tailW m) _ (row_lay (HR6.out.mono HB7.out) HM.out) (row_lay HR7.out HM.out) (by simp [tailW_length]; exact HM.out)).mono ?_
    rintro e w8 ⟨rfl, nd8, rfl⟩
    go_wp2_with fail
    go_ret
    exact ⟨rfl, bdrew (bthen HB06.out HB7.out) nd8⟩
end Go.Proofs.YtgobcaianpmbiaaDoor
