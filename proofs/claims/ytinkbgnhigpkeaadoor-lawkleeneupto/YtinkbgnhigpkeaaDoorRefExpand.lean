/- The plain answer's Expand. -/
import Derived.Test.YtinkbgnhigpkeaaDoorExpand
set_option linter.unusedVariables false
set_option linter.unusedSimpArgs false
set_option linter.unnecessarySimpa false
namespace Go.Proofs.YtinkbgnhigpkeaaDoor
open Go.RowKit

set_option maxHeartbeats 2000000 in
theorem refExpand_any (v u : Value) (xs ys : List Nat) (n : Int) (w : World) (hx : Rd w v xs.length 1 (u64s xs)) (hy : Rd w u ys.length 1 (u64s ys)) (hv : ∀ x ∈ xs, x < 18446744073709551616) (hvy : ∀ x ∈ ys, x < 18446744073709551616) (hl : xs.length ≤ maxLen) (hly : ys.length ≤ maxLen) :
    Calls Tryd.prog 23 #[v, .int .i64 n, u] w fun e w' => ∃ r, e = .returned (.tuple #[r, .bool (expOk n xs ys)]) ∧ w'.ownsRow w.heap.size 55 1 r (expR n xs ys).length (u64s (expR n xs ys)) ∧ Below w.heap.size w w' := by
  have HX := hid hx; have HY := hid hy; have HV := hid hv; have HVY := hid hvy; have HL := hid hl; have HLY := hid hly
  have H := hid (refIsBitmap_any v xs n w hx hv hl)
  have HRK := hid (refRank_any v xs n n w hx hv hl)
  clear hx hy hv hvy hl hly
  obtain ⟨R, hR⟩ : ∃ R, expR n xs ys = R := ⟨_, rfl⟩
  obtain ⟨ok, hok⟩ : ∃ ok, expOk n xs ys = ok := ⟨_, rfl⟩
  rw [hok, hR]
  have HOK := hid hok; have HR := hid hR
  clear hok hR
  have HNO : Hid (expOk n xs ys = false → R = [] ∧ ok = false) := hid (fun h => ⟨by rw [← HR.out, expR, if_neg (by rw [h]; simp)], by rw [← HOK.out, h]⟩)
  obtain ⟨o1, ho1⟩ : ∃ o1, okPack 1 n xs = o1 := ⟨_, rfl⟩
  rw [ho1] at H
  have HO1 := hid ho1
  clear ho1
  go_enter Tryd.func23, Tryd.ntmps23
  cases o1
  · go_wp2_with (go_at_call 40; refine H.out.mono ?_; rintro e w' ⟨rfl, hw⟩; replace hw := hw.symm; subst hw)
    go_ret2
    have h := HNO.out (by unfold expOk; rw [HO1.out]; rfl)
    exact ⟨.slice none 0 0, by rw [h.2]; rfl, by rw [h.1]; exact World.ownsRow_nil _ _ _ _, Below.refl _ _⟩
  have hnn : 0 ≤ n ∧ n ≤ 65536 := by
    refine Decidable.byContradiction fun hc => ?_
    have := HO1.out
    rw [okPack_not _ (by omega)] at this; cases this
  obtain ⟨m, rfl⟩ := Int.eq_ofNat_of_zero_le hnn.1
  have hm : m ≤ 65536 := by omega
  have hrr : rankR (m : Int) (m : Int) xs = ((rankN xs m : Nat) : Int) := by rw [rankR, if_pos ⟨HO1.out, by omega, by omega⟩, Int.toNat_natCast]
  rw [hrr] at HRK
  have hrl : rankN xs m ≤ m := by rw [← idxN_length]; exact idxN_le xs m
  obtain ⟨k, hk⟩ : ∃ k, rankN xs m = k := ⟨_, rfl⟩
  rw [hk] at HRK hrl
  have HK := hid hk
  clear hk hrr hnn
  have HB2 := hid (refIsBitmap_any u ys (k : Int) w HY.out HVY.out HLY.out)
  obtain ⟨o2, ho2⟩ : ∃ o2, okPack 1 (k : Int) ys = o2 := ⟨_, rfl⟩
  rw [ho2] at HB2
  have HO2 := hid ho2
  clear ho2
  have HEO : Hid (expOk (m : Int) xs ys = o2) := hid (by unfold expOk; rw [HO1.out, Int.toNat_natCast, HK.out, HO2.out]; rfl)
  go_wp2_with (first | (go_at_call_of 40 v; refine H.out.mono ?_; rintro e w' ⟨rfl, hw⟩; replace hw := hw.symm; subst hw) | (go_at_call 15; refine HRK.out.mono ?_; rintro e w' ⟨rfl, hw⟩; replace hw := hw.symm; subst hw))
  refine HB2.out.mono ?_
  rintro e w' ⟨rfl, hw⟩
  replace hw := hw.symm
  subst hw
  cases o2
  · go_wp2
    go_ret2
    have h := HNO.out HEO.out
    exact ⟨.slice none 0 0, by rw [h.2]; rfl, by rw [h.1]; exact World.ownsRow_nil _ _ _ _, Below.refl _ _⟩
  go_wp2
  refine upon_make 4 (.bool false) 1 Tryd.underlying51 Tryd.infoBool rfl m (by omega) (by omega) (by omega) (by unfold maxLen; omega) ?_
  intro w1 hrow hb1 hsz1
  have HZ1 := hid hsz1
  have hrow2 : Row w1 w.heap.size 4 (bools (List.replicate m false)) := by
    have e : bools (List.replicate m false) = List.replicate m (.bool false) := by simp [bools]
    rw [e]; exact hrow
  have HROW := hid hrow2
  clear hsz1 hrow hrow2
  go_wp2
  go_loopw [9, 28] (fun c i wr => ∃ (p : Nat) (fl : List Bool), p ≤ m ∧ i = .int .i64 p ∧ c = .int .i64 (rankN xs p : Nat) ∧ Hid (∀ j : Nat, fl.getD j false = (decide (j < p) && expF xs ys j)) ∧ Hid (fl.length = m) ∧ Hid (Row wr w.heap.size 4 (bools fl)) ∧ Below w.heap.size w wr ∧ Hid (wr.heap.size = w.heap.size + 1)) (fun _ i _ => m - (intOf i).toNat)
  case atStart => exact ⟨0, List.replicate m false, by omega, rfl, by simp [rankN], hid (fun j => by rw [getD_repB]; simp), hid (by simp), HROW, hb1, HZ1⟩
  case round =>
    obtain ⟨p, fl, hp, rfl, rfl, HD, HFL, HRW, hb, HZ⟩ := hrel
    clear HROW hb1 HZ1
    by_cases hlt : p < m
    · have HC := hid (bitAt_any v xs p wr (HX.out.mono hb) HV.out HL.out (by omega))
      have hrp : rankN xs p ≤ p := by rw [← idxN_length]; exact idxN_le xs p
      have HC2 := hid (bitAt_any u ys (rankN xs p) wr (HY.out.mono hb) HVY.out HLY.out (by omega))
      have HS := hid (rankN_succ xs p)
      have hjf : p < fl.length := by have := HFL.out; omega
      have c2 : wr.cell? ⟨w.heap.size, p, none⟩ = some (.bool (fl.getD p false)) := by rw [HRW.out.cell]; exact bools_get fl p hjf
      have hfr := HRW.out.frozen p
      have HF : Hid (expF xs ys p = (bitOf xs p && bitOf ys (rankN xs p))) := hid rfl
      obtain ⟨b2, hb2⟩ : ∃ b2, bitOf ys (rankN xs p) = b2 := ⟨_, rfl⟩
      rw [hb2] at HC2 HF
      obtain ⟨b1, hb1⟩ : ∃ b1, bitOf xs p = b1 := ⟨_, rfl⟩
      rw [hb1] at HC HF HS
      have HBS := hid (getD_setB fl p hjf b2)
      have HRS := hid (HRW.out.set p (.bool b2))
      clear hjf hb1 hb2
      generalize rankN xs p = a at *
      generalize fl.getD p false = fb at c2
      cases b1
      · go_wp2_with (go_at_call 41; refine HC.out.mono ?_; rintro e w' ⟨rfl, hw⟩; replace hw := hw.symm; subst hw)
        go_roundw
        case rel =>
          refine ⟨p + 1, fl, by omega, by go_num, by rw [HS.out]; simp, hid (fun j => ?_), HFL, HRW, hb, HZ⟩
          rw [HD.out j]
          by_cases h : j = p
          · subst h; rw [HF.out]; simp
          · congr 1; rw [decide_eq_decide]; omega
        case measure => simp [intOf]; omega
      · go_wp2_with (first | (go_at_call_of 41 v; refine HC.out.mono ?_; rintro e w' ⟨rfl, hw⟩; replace hw := hw.symm; subst hw) | (go_at_call_of 41 u; refine HC2.out.mono ?_; rintro e w' ⟨rfl, hw⟩; replace hw := hw.symm; subst hw))
        go_roundw
        case rel =>
          refine ⟨p + 1, fl.set p b2, by omega, by go_num, by rw [HS.out]; simp, hid (fun j => ?_), hid (by rw [List.length_set]; exact HFL.out), hid (by rw [← bools_set]; exact HRS.out), below_set hb _ _ _ (Nat.le_refl _), hid (by rw [← HZ.out]; simp [World.setCell])⟩
          rw [HBS.out j]
          by_cases h : j = p
          · subst h; rw [if_pos rfl, HF.out]; simp
          · rw [if_neg h, HD.out j]; congr 1; rw [decide_eq_decide]; omega
        case measure => simp [intOf]; omega
    · obtain rfl : p = m := by omega
      have HFE := hid (flags_eq p (expF xs ys) fl HFL.out (fun j hj => by rw [HD.out j]; simp [hj]))
      have HBO := hid (bitmapOf_any (.slice (some ⟨w.heap.size, 0, none⟩) p p) fl wr (by rw [HFL.out]; exact HRW.out.rd' (by rw [bools_length]; exact HFL.out) (by unfold maxLen; omega)) (by rw [HFL.out]; exact hm))
      have HRR : Hid (R = bmL fl) := hid (by rw [← HR.out, expR, if_pos HEO.out, Int.toNat_natCast, ← HFE.out])
      go_wp2_with (go_at_call 33; refine HBO.out.mono ?_; rintro e w2 ⟨r, rfl, ho2, hb2⟩; have HO3 := hid ho2; clear ho2)
      go_ret2
      refine ⟨r, by rw [← HOK.out, HEO.out]; rfl, ?_, bthen hb hb2⟩
      rw [HRR.out]
      exact World.ownsRow.mono HO3.out hb.size
end Go.Proofs.YtinkbgnhigpkeaaDoor
