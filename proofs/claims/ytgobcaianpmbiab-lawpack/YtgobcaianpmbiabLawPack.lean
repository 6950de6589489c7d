/- LawPack's walk: out of the contracts of Pack, Unpack, their plain answers, and the laws' helpers. -/
import Derived.Test.YtgobcaianpmbiabRefc
import Derived.Test.YtgobcaianpmbiabSpoil
import Derived.Deep.DeepMust
set_option linter.unusedVariables false
set_option linter.unusedSimpArgs false
set_option linter.unnecessarySimpa false
namespace Go.Proofs.Ytgobcaianpmbiab
open Go.RowKit

theorem tailW_length (m : Nat) : (tailW m).length = m := by simp [tailW]
theorem row_lay {w : World} {g m : Nat} {xs : List Nat} (h : Row w g 22 (u64s (xs ++ tailW m))) (hl : xs.length + m ≤ maxLen) :
    Rd w (.slice (some ⟨g, 0, none⟩) (xs.length + m) (xs.length + m)) (xs ++ tailW m).length 1 (u64s (xs ++ tailW m)) := by
  have e : (xs ++ tailW m).length = xs.length + m := by simp [tailW_length]
  rw [e]
  exact h.rd' (by rw [u64s_length, e]) hl
theorem row_part {w : World} {g m : Nat} {xs : List Nat} (h : Row w g 22 (u64s (xs ++ tailW m))) (hl : xs.length + m ≤ maxLen) :
    Rd w (.slice (some ⟨g, 0, none⟩) xs.length (xs.length + m)) xs.length 1 (u64s xs) := by
  have := h.rd 0 xs.length (xs.length + m) (by simp [u64s]) (by omega) hl
  rw [List.drop_zero, u64s_append, ← u64s_length xs, List.take_left] at this
  rwa [u64s_length] at this
theorem packR_lt (wd : Int) (xs : List Nat) : ∀ x ∈ packR wd xs, x < 18446744073709551616 := by
  intro x hx
  unfold packR at hx
  split at hx
  · rename_i hok
    simp only [okVals, okLim, Bool.and_eq_true, List.all_eq_true, decide_eq_true_eq] at hok
    obtain ⟨k, hk, rfl⟩ := List.getElem_of_mem hx
    have h1 := (L.pack_isPack (w := wd.toNat) (by omega) xs hok.2).2 k hk
    have h2 := pow_le_64 (L.inWord_le wd.toNat xs.length k)
    simp only [List.getD, List.getElem?_eq_getElem hk, Option.getD_some] at h1
    omega
  · cases hx
theorem packR_len (wd : Int) (xs : List Nat) : (packR wd xs).length ≤ 65536 := by
  unfold packR
  split
  · rename_i hok
    simp only [okVals, okLim, Bool.and_eq_true, List.all_eq_true, decide_eq_true_eq] at hok
    rw [L.packL_length]
    have := L.nWords_le (w := wd.toNat) (n := xs.length) (by omega)
    omega
  · simp
theorem unpackR_lt (wd n : Int) (xs : List Nat) : ∀ x ∈ unpackR wd n xs, x < 18446744073709551616 := by
  intro x hx
  unfold unpackR at hx
  split at hx
  · rename_i hok
    simp only [okPack, okLim, Bool.and_eq_true, decide_eq_true_eq] at hok
    have h1 := L.lanesL_lt _ _ _ x hx
    have h2 := pow_le_64 (k := wd.toNat) (by omega)
    omega
  · cases hx
theorem unpackR_len (wd n : Int) (xs : List Nat) : (unpackR wd n xs).length ≤ 65536 := by
  unfold unpackR
  split
  · rename_i hok
    simp only [okPack, okLim, Bool.and_eq_true, decide_eq_true_eq] at hok
    rw [L.lanesL_length]; omega
  · simp
/-- what Pack packed, Unpack unpacks -/
theorem unpack_pack (wd : Int) (xs : List Nat) (hok : okVals wd xs = true) : okPack wd (xs.length : Int) (packR wd xs) = true ∧ unpackR wd (xs.length : Int) (packR wd xs) = xs := by
  have hp : packR wd xs = L.packL wd.toNat xs := by rw [packR, if_pos hok]
  have h := hok
  simp only [okVals, Bool.and_eq_true, List.all_eq_true, decide_eq_true_eq] at h
  have hw : wd.toNat ≤ 64 := by have := h.1; simp only [okLim, decide_eq_true_eq] at this; omega
  have hlp := L.lanes_pack hw xs h.2
  have hk : okPack wd (xs.length : Int) (packR wd xs) = true := by
    simp only [okPack, Bool.and_eq_true, decide_eq_true_eq, Int.toNat_natCast]
    exact ⟨h.1, by rw [hp, hlp]⟩
  exact ⟨hk, by rw [unpackR, if_pos hk, Int.toNat_natCast, hp, hlp]⟩

set_option maxHeartbeats 4000000 in
theorem lawPack_walk (v1 v2 : Value) (xs ys : List Nat) (wd n r : Int) (w : World) (hx : Rd w v1 xs.length 1 (u64s xs)) (hy : Rd w v2 ys.length 1 (u64s ys))
    (hvx : ∀ x ∈ xs, x < 18446744073709551616) (hvy : ∀ x ∈ ys, x < 18446744073709551616) (hlx : xs.length ≤ 17592186044416) (hly : ys.length ≤ 17592186044416) :
    Calls Try.prog 4 #[v1, .int .i64 wd, v2, .int .i64 n, .int .i64 r] w fun e w' => e = .returned (.bool true) ∧ Below w.heap.size w w' := by
  have hm := clipN_le r
  obtain ⟨m, hmr⟩ : ∃ m, clipN r = m := ⟨_, rfl⟩
  rw [hmr] at hm
  have HMR := hid hmr; have HX := hid hx; have HY := hid hy; have HVX := hid hvx; have HVY := hid hvy
  have hM : xs.length + m ≤ maxLen := by unfold maxLen; omega
  have hM2 : ys.length + m ≤ maxLen := by unfold maxLen; omega
  have HM := hid hM; have HM2 := hid hM2
  obtain ⟨A1, c1, rfl, hc1, _, _⟩ := hx.form
  obtain ⟨A2, c2, rfl, hc2, _, _⟩ := hy.form
  clear hmr hx hy hvx hvy hM hM2 hc1 hc2
  have HPL := hid (packR_len wd xs); have HPV := hid (packR_lt wd xs)
  go_enter Try.func4, Try.ntmps4
  go_wp2_with fail
  refine (layWords_any _ xs r _ HX.out hlx).mono ?_
  rintro e w1 ⟨rfl, hr1, hb1, hz1⟩
  rw [HMR.out] at hr1 ⊢
  have HR1 := hid hr1; have HB1 := hid hb1; have HZ1 := hid hz1
  clear hr1 hb1 hz1
  go_wp2_with fail
  refine (Pack_any _ xs wd _ (row_part HR1.out HM.out) HVX.out (by unfold maxLen; omega)).mono ?_
  rintro e w2 ⟨r1, rfl, ho1, hb2⟩
  have HO1 := hid ho1; have HB2 := hid hb2
  obtain ⟨A3, c3, rfl, hc3, _, _, _⟩ := owns_form ho1
  clear ho1 hb2 hc3
  generalize hpk : packR wd xs = pk at *
  have HPK := hid hpk
  clear hpk
  go_wp2_with fail
  refine (refPack_any _ xs wd _ (HX.out.mono (bthen HB1.out HB2.out)) HVX.out (by unfold maxLen; omega)).mono ?_
  rintro e w3 ⟨r2, rfl, ho2, hb3⟩
  rw [HPK.out] at ho2
  have HO2 := hid ho2; have HB3 := hid hb3
  obtain ⟨A4, c4, rfl, hc4, _, _, _⟩ := owns_form ho2
  clear ho2 hb3 hc4
  have HRD1 := hid (owns_rd (owns_below HO1.out HB3.out)); have HRD2 := hid (owns_rd HO2.out)
  have hpm : pk.length ≤ maxLen := by have := HPL.out; unfold maxLen; omega
  have HPM := hid hpm
  clear hpm
  have HB13 := hid (bthen HB1.out (bthen HB2.out HB3.out))
  have HS13 : Hid (w1.heap.size ≤ w3.heap.size) := Nat.le_trans HB2.out.size HB3.out.size
  cases hok : okVals wd xs
  case' false =>
    have HOK := hid hok
    clear hok
    go_wp2_with (first
      | (go_at_call 12; refine (sameWords_same _ _ pk _ HRD1.out HRD2.out HPM.out).mono ?_; rintro e w4 ⟨rfl, nd, rfl⟩)
      | (go_at_call 14; refine (spoilWords_any w1.heap.size _ pk r _ (owns_below HO1.out (bdrew HB3.out nd)) HPV.out HS13.out (by have := HPL.out; omega)).mono ?_; rintro e w5 ⟨⟨u, rfl⟩, hb5⟩; have HB5 := hid hb5; clear hb5))
    have HB15 : Hid (Below w1.heap.size w1 w5) := (bdrew (bthen HB2.out HB3.out) nd).trans HB5.out
  case' true =>
    have HOK := hid hok
    have hup := unpack_pack wd xs hok
    rw [HPK.out] at hup
    have HUP1 := hid hup.1; have HUP2 := hid hup.2
    clear hok hup
    go_wp2_with (first
      | (go_at_call_of 12 (Value.slice A3 pk.length c3); refine (sameWords_same _ _ pk _ HRD1.out HRD2.out HPM.out).mono ?_; rintro e w4 ⟨rfl, nd, rfl⟩)
      | (go_at_call 13; refine (Unpack_any _ pk wd (xs.length : Int) _ (owns_rd (owns_below HO1.out (bdrew HB3.out nd))) HPV.out HPM.out).mono ?_; rintro e w4 ⟨r3, rfl, ho3, hb4⟩; rw [HUP1.out]; rw [HUP2.out] at ho3; have HO3 := hid ho3; have HB4 := hid hb4; obtain ⟨A5, c5, rfl, hc5, _, _, _⟩ := owns_form ho3; clear ho3 hb4 hc5)
      | (go_at_call 12; go_must (refine (sameWords_same _ _ xs _ (owns_rd HO3.out) (HX.out.mono (bthen (bdrew HB13.out nd) HB4.out)) (by unfold maxLen; omega)).mono ?_); rintro e w4b ⟨rfl, nd2, rfl⟩)
      | (go_at_call 14; refine (spoilWords_any w1.heap.size _ pk r _ (owns_below HO1.out (bdrew (bthen (bdrew HB3.out nd) HB4.out) nd2)) HPV.out (Nat.le_trans HS13.out HB4.out.size) (by have := HPL.out; omega)).mono ?_; rintro e w5 ⟨⟨u, rfl⟩, hb5⟩; have HB5 := hid hb5; clear hb5))
    have HB15 : Hid (Below w1.heap.size w1 w5) := (bdrew (bthen (bdrew (bthen HB2.out HB3.out) nd) HB4.out) nd2).trans HB5.out
  all_goals
    have HB05 : Hid (Below w.heap.size w w5) := bthen HB1.out HB15.out
    have HR5 : Hid (Row w5 w.heap.size 22 (u64s (xs ++ tailW m))) := HR1.out.below HB15.out (by have := HZ1.out; omega)
    refine (layWords_any _ xs r _ (HX.out.mono HB05.out) hlx).mono ?_
    rintro e w6 ⟨rfl, hr6, hb6, hz6⟩
    rw [HMR.out] at hr6 ⊢
    have HR6 := hid hr6; have HB6 := hid hb6
    clear hr6 hb6 hz6
    go_wp2_with fail
    refine (sameWords_same _ _ (xs ++ tailW m) _ (row_lay (HR5.out.mono HB6.out) HM.out) (row_lay HR6.out HM.out) (by simp [tailW_length]; exact HM.out)).mono ?_
    rintro e w7 ⟨rfl, nd7, rfl⟩
    go_wp2_with fail
    have HB07 : Hid (Below w.heap.size w (w6.drewN nd7)) := bdrew (bthen HB05.out HB6.out) nd7
    clear HR5 HR6 HB15 HR1 HB13 HS13 HO1 HO2 HRD1 HRD2
    generalize w6.drewN nd7 = w7 at *
    refine (layWords_any _ ys r _ (HY.out.mono HB07.out) hly).mono ?_
    rintro e w8 ⟨rfl, hr8, hb8, hz8⟩
    rw [HMR.out] at hr8 ⊢
    have HR8 := hid hr8; have HB8 := hid hb8; have HZ8 := hid hz8
    clear hr8 hb8 hz8
    have HUL := hid (unpackR_len wd n ys); have HUV := hid (unpackR_lt wd n ys)
    go_wp2_with fail
    refine (Unpack_any _ ys wd n _ (row_part HR8.out HM2.out) HVY.out (by unfold maxLen; omega)).mono ?_
    rintro e w9 ⟨r9, rfl, ho9, hb9⟩
    have HO9 := hid ho9; have HB9 := hid hb9
    obtain ⟨A9, c9, rfl, hc9, _, _, _⟩ := owns_form ho9
    clear ho9 hb9 hc9
    generalize hup : unpackR wd n ys = up at *
    have HUP := hid hup
    clear hup
    generalize hok2 : okPack wd n ys = ok2 at *
    have HOK2 := hid hok2
    clear hok2
    go_wp2_with fail
    refine (refUnpack_any _ ys wd n _ (HY.out.mono (bthen HB07.out (bthen HB8.out HB9.out))) HVY.out (by unfold maxLen; omega)).mono ?_
    rintro e w10 ⟨r10, rfl, ho10, hb10⟩
    rw [HUP.out] at ho10
    rw [HOK2.out]
    have HO10 := hid ho10; have HB10 := hid hb10
    obtain ⟨A10, c10, rfl, hc10, _, _, _⟩ := owns_form ho10
    clear ho10 hb10 hc10
    have hpm2 : up.length ≤ maxLen := by have := HUL.out; unfold maxLen; omega
    have HPM2 := hid hpm2
    clear hpm2
    have e1 : (ok2 != ok2) = false := by simp
    go_wp2_with (go_at_call 12; refine (sameWords_same _ _ up _ (owns_rd (owns_below HO9.out HB10.out)) (owns_rd HO10.out) HPM2.out).mono ?_; rintro e w11 ⟨rfl, nd11, rfl⟩)
    refine (spoilWords_any w8.heap.size _ up r _ (owns_below HO9.out (bdrew HB10.out nd11)) HUV.out (Nat.le_trans HB9.out.size HB10.out.size) (by have := HUL.out; omega)).mono ?_
    rintro e w12 ⟨⟨u12, rfl⟩, hb12⟩
    have HB812 : Hid (Below w8.heap.size w8 w12) := (bdrew (bthen HB9.out HB10.out) nd11).trans hb12
    clear hb12
    go_wp2_with fail
    have HB012 := hid (bthen HB07.out (bthen HB8.out HB812.out))
    refine (layWords_any _ ys r _ (HY.out.mono HB012.out) hly).mono ?_
    rintro e w13 ⟨rfl, hr13, hb13, hz13⟩
    rw [HMR.out] at hr13 ⊢
    have HR13 := hid hr13; have HB13b := hid hb13
    clear hr13 hb13 hz13
    go_wp2_with fail
    refine (sameWords_same _ _ (ys ++ tailW m) _ (row_lay ((HR8.out.mono HB812.out).mono HB13b.out) HM2.out) (row_lay HR13.out HM2.out) (by simp [tailW_length]; exact HM2.out)).mono ?_
    rintro e w14 ⟨rfl, nd14, rfl⟩
    go_wp2_with fail
    go_ret
    exact ⟨rfl, bdrew (bthen HB012.out HB13b.out) nd14⟩
end Go.Proofs.Ytgobcaianpmbiab
