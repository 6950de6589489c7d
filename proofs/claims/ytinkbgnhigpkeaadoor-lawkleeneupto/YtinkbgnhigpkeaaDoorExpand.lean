/- bitvec's Expand and the plain answer's. -/
import Derived.Test.YtinkbgnhigpkeaaDoorRefDense
set_option linter.unusedVariables false
set_option linter.unusedSimpArgs false
set_option linter.unnecessarySimpa false
namespace Go.Proofs.YtinkbgnhigpkeaaDoor
open Go.RowKit

def expOk (n : Int) (xs ys : List Nat) : Bool := okPack 1 n xs && okPack 1 ((rankN xs n.toNat : Nat) : Int) ys
def expF (xs ys : List Nat) (p : Nat) : Bool := bitOf xs p && bitOf ys (rankN xs p)
def expR (n : Int) (xs ys : List Nat) : List Nat := if expOk n xs ys = true then bmL ((List.range n.toNat).map (expF xs ys)) else []

theorem rankN_mono (xs : List Nat) (a : Nat) : ∀ d, rankN xs a ≤ rankN xs (a + d)
  | 0 => Nat.le_refl _
  | d + 1 => by
    have := rankN_mono xs a d
    rw [← Nat.add_assoc, rankN_succ]; omega
theorem rankN_lt (xs : List Nat) (p m : Nat) (hp : p < m) (hb : bitOf xs p = true) : rankN xs p < rankN xs m := by
  have h := rankN_mono xs (p + 1) (m - (p + 1))
  rw [show p + 1 + (m - (p + 1)) = m from by omega, rankN_succ, if_pos hb] at h
  omega
/-- the place at which the list of places has its entry j -/
theorem idxN_at (xs : List Nat) : ∀ (m j : Nat), j < rankN xs m → ∃ q, q < m ∧ (idxN xs m).getD j 0 = q ∧ bitOf xs q = true ∧ rankN xs q = j
  | 0, j, h => by simp [rankN] at h
  | m + 1, j, h => by
    rw [rankN_succ] at h
    by_cases hj : j < rankN xs m
    · obtain ⟨q, h1, h2, h3, h4⟩ := idxN_at xs m j hj
      refine ⟨q, by omega, ?_, h3, h4⟩
      rw [idxN_snoc, ← h2]
      simp only [List.getD]
      rw [List.getElem?_append_left (by rw [idxN_length]; exact hj)]
    · cases hb : bitOf xs m
      · rw [hb] at h; simp at h; omega
      · rw [hb, if_pos rfl] at h
        refine ⟨m, by omega, ?_, hb, by omega⟩
        rw [idxN_snoc, hb, if_pos rfl]
        simp only [List.getD]
        rw [List.getElem?_append_right (by rw [idxN_length]; omega), idxN_length, show j - rankN xs m = 0 from by omega]
        rfl
theorem rank_inj (xs : List Nat) (p q : Nat) (hp : bitOf xs p = true) (hq : bitOf xs q = true) (h : rankN xs p = rankN xs q) : p = q := by
  rcases Nat.lt_trichotomy p q with h1 | h1 | h1
  · have := rankN_lt xs p q h1 hp; omega
  · exact h1
  · have := rankN_lt xs q p h1 hq; omega
theorem exp_bm (m : Nat) (xs ys zs : List Nat) (hlen : zs.length = L.nWords 1 m) (hv : ∀ x ∈ zs, x < 18446744073709551616) (hb : ∀ j : Nat, bitOf zs j = (decide (j < m) && expF xs ys j)) :
    zs = bmL ((List.range m).map (expF xs ys)) := by
  obtain ⟨h1, h2, h3⟩ := bmL_isBm ((List.range m).map (expF xs ys))
  simp only [List.length_map, List.length_range] at h1 h3
  refine bm_ext (hlen.trans h1.symm) hv h2 (fun i hi => ?_)
  rw [hb, h3 i (by rw [h1, ← hlen]; exact hi)]
  by_cases hm : i < m
  · simp [hm, List.getD]
  · simp [hm]
/-- the bits that are set after j places -/
def EInv (m : Nat) (xs ys : List Nat) (j : Nat) (f : Nat → Bool) : Prop := ∀ p, f p = (decide (p < m) && (expF xs ys p && decide (rankN xs p < j)))
theorem einv_step {m : Nat} {xs ys : List Nat} {j q : Nat} {f f' : Nat → Bool} (h : EInv m xs ys j f) (hq : q < m) (hb : bitOf xs q = true) (hr : rankN xs q = j)
    (h1 : bitOf ys j = true → ∀ p, f' p = (f p || decide (p = q))) (h0 : bitOf ys j = false → f' = f) : EInv m xs ys (j + 1) f' := by
  intro p
  cases hy : bitOf ys j
  · rw [h0 hy, h p]
    by_cases hp : rankN xs p = j
    · have : expF xs ys p = false := by unfold expF; rw [hp, hy]; simp
      simp [this]
    · congr 2
      rw [decide_eq_decide]; omega
  · rw [h1 hy, h p]
    by_cases hpq : p = q
    · subst hpq
      have : expF xs ys p = true := by unfold expF; rw [hb, hr, hy]; rfl
      simp [hq, this, hr]
    · simp only [hpq, decide_false, Bool.or_false]
      congr 1
      cases he : expF xs ys p
      · simp
      · have hbp : bitOf xs p = true := by unfold expF at he; simp at he; exact he.1
        have hne : rankN xs p ≠ j := fun hh => hpq (rank_inj xs p q hbp hb (by omega))
        simp only [Bool.true_and]
        rw [decide_eq_decide]; omega
theorem einv_end {m : Nat} {xs ys : List Nat} {f : Nat → Bool} (h : EInv m xs ys (rankN xs m) f) : ∀ p, f p = (decide (p < m) && expF xs ys p) := by
  intro p
  rw [h p]
  by_cases hp : p < m
  · cases he : expF xs ys p
    · simp
    · have hbp : bitOf xs p = true := by unfold expF at he; simp at he; exact he.1
      simp [hp, rankN_lt xs p m hp hbp]
  · simp [hp]

set_option maxHeartbeats 400000 in
theorem hasBit_any (v : Value) (xs : List Nat) (i : Nat) (w : World) (hx : Rd w v xs.length 1 (u64s xs)) (hv : ∀ x ∈ xs, x < 18446744073709551616) (hl : xs.length ≤ maxLen) (hi : i < 64 * xs.length) (hi2 : i ≤ 9223372036854775807) :
    Calls Tryd.prog 45 #[v, .int .i64 i] w fun e w' => e = .returned (.bool (bitOf xs i)) ∧ w' = w := by
  unfold maxLen at hl
  obtain ⟨A, ca, rfl, hlc, hcm, hA⟩ := hx.form
  clear hx hlc hcm
  obtain ⟨d, hd⟩ : ∃ d, i / 64 = d := ⟨_, rfl⟩
  obtain ⟨r, hr⟩ : ∃ r, i % 64 = r := ⟨_, rfl⟩
  have hd' : (i : Int) / 64 = (d : Int) := by omega
  have hr' : (i : Int) % 64 = (r : Int) := by omega
  have hr64 : r < 64 := by omega
  have hdi : d ≤ i := by omega
  have hlt : d < xs.length := by omega
  have HB : Hid (bitOf xs i = (xs.getD d 0).testBit r) := by refine hid ?_; rw [bitOf, hd, hr]
  clear hd hr
  obtain ⟨b, o, rfl, hs⟩ := hA (by omega)
  have c1 := hs.word d hlt
  have hvd := hv (xs.getD d 0) (by simp [List.getD, List.getElem?_eq_getElem hlt])
  have HT := hid (bit_test (xs.getD d 0) r hvd)
  clear hA hs hvd
  generalize xs.getD d 0 = x at *
  go_enter Tryd.func45, Tryd.ntmps45
  go_wp2
  go_ret
  exact ⟨ret_bool (by rw [HB.out, HT.out]), rfl⟩

set_option maxHeartbeats 2000000 in
theorem Expand_any (v u : Value) (xs ys : List Nat) (n : Int) (w : World) (ht : Tab w) (hx : Rd w v xs.length 1 (u64s xs)) (hy : Rd w u ys.length 1 (u64s ys)) (hv : ∀ x ∈ xs, x < 18446744073709551616) (hvy : ∀ x ∈ ys, x < 18446744073709551616) (hl : xs.length ≤ maxLen) (hly : ys.length ≤ maxLen) :
    Calls Tryd.prog 22 #[v, .int .i64 n, u] w fun e w' => ∃ r, e = .returned (.tuple #[r, .bool (expOk n xs ys)]) ∧ w'.ownsRow w.heap.size 55 1 r (expR n xs ys).length (u64s (expR n xs ys)) ∧ Below w.heap.size w w' := by
  have HX := hid hx; have HY := hid hy; have HV := hid hv; have HVY := hid hvy; have HL := hid hl; have HLY := hid hly; have HT := hid ht
  have H := hid (isBitmap_any v xs n w hx hv hl)
  clear hx hy hv hvy hl hly ht
  obtain ⟨R, hR⟩ : ∃ R, expR n xs ys = R := ⟨_, rfl⟩
  obtain ⟨ok, hok⟩ : ∃ ok, expOk n xs ys = ok := ⟨_, rfl⟩
  rw [hok, hR]
  have HOK := hid hok; have HR := hid hR
  clear hok hR
  have HNO : Hid (expOk n xs ys = false → R = [] ∧ ok = false) := hid (fun h => ⟨by rw [← HR.out, expR, if_neg (by rw [h]; simp)], by rw [← HOK.out, h]⟩)
  obtain ⟨o1, ho1⟩ : ∃ o1, okPack 1 n xs = o1 := ⟨_, rfl⟩
  rw [ho1] at H
  have HO1 := hid ho1
  clear ho1
  go_enter Tryd.func22, Tryd.ntmps22
  cases o1
  · go_wp2_with (go_at_call 36; refine H.out.mono ?_; rintro e w' ⟨rfl, hw⟩; replace hw := hw.symm; subst hw)
    go_ret2
    have h := HNO.out (by unfold expOk; rw [HO1.out]; rfl)
    exact ⟨.slice none 0 0, by rw [h.2]; rfl, by rw [h.1]; exact World.ownsRow_nil _ _ _ _, Below.refl _ _⟩
  have hnn : 0 ≤ n ∧ n ≤ 65536 := by
    refine Decidable.byContradiction fun hc => ?_
    have := HO1.out
    rw [okPack_not _ (by omega)] at this; cases this
  obtain ⟨m, rfl⟩ := Int.eq_ofNat_of_zero_le hnn.1
  have hm : m ≤ 65536 := by omega
  have hip := (okPack_nat (wd := 1) (n := m) xs (by decide) hm).1 HO1.out
  have hlen : xs.length = (m + 63) / 64 := hip.1.trans (nWords1 m)
  have HRE : Hid (idxN xs (64 * xs.length) = idxN xs m) := by
    refine hid ?_; rw [show 64 * xs.length = m + (64 * xs.length - m) from by omega]
    exact idxN_gap xs m _ (fun p h1 h2 => isPack_beyond hip p h1)
  have HSP := hid (setPlaces_any v xs w HT.out HX.out HV.out (by omega))
  rw [HRE.out, idxN_length] at HSP
  clear hip hnn hlen HRE
  have HAT := hid (idxN_at xs m)
  have hrl : rankN xs m ≤ m := by rw [← idxN_length]; exact idxN_le xs m
  obtain ⟨I, hI⟩ : ∃ I, idxN xs m = I := ⟨_, rfl⟩
  rw [hI] at HSP HAT
  have HIL : Hid (I.length = rankN xs m) := hid (by rw [← hI]; rfl)
  clear hI
  obtain ⟨k, hk⟩ : ∃ k, rankN xs m = k := ⟨_, rfl⟩
  rw [hk] at HAT HIL hrl HSP
  have HK := hid hk
  clear hk
  have HB2 := hid (fun (w2 : World) (hr : Rd w2 u ys.length 1 (u64s ys)) => isBitmap_any u ys (k : Int) w2 hr HVY.out HLY.out)
  obtain ⟨o2, ho2⟩ : ∃ o2, okPack 1 (k : Int) ys = o2 := ⟨_, rfl⟩
  rw [ho2] at HB2
  have HO2 := hid ho2
  clear ho2
  have HEO : Hid (expOk (m : Int) xs ys = o2) := hid (by unfold expOk; rw [HO1.out, Int.toNat_natCast, HK.out, HO2.out]; rfl)
  have hml := L.nWords_le (w := 1) (n := m) (by omega)
  have HNW := hid (nWords1_le m)
  have HBW := hid (fun w2 => bitWords_any m w2 hm)
  obtain ⟨q, hq⟩ : ∃ q, L.nWords 1 m = q := ⟨_, rfl⟩
  rw [hq] at hml HNW HBW
  have HQ := hid hq
  clear hq
  go_wp2_with (first | (go_at_call 36; refine H.out.mono ?_; rintro e w' ⟨rfl, hw⟩; replace hw := hw.symm; subst hw) | fail)
  refine HSP.out.mono ?_
  rintro e w1 ⟨r1, rfl, hown1, hb1⟩
  have HOWN1 := hid hown1
  obtain ⟨A1, c1, rfl, hc1, hcm1, hI1, hform1⟩ := owns_form hown1
  have HFORM := hid hform1
  have HB1 := hid (HB2.out w1 (HY.out.mono hb1))
  clear hown1 hform1 hI1 hc1 hcm1
  cases o2
  · go_wp2_with (go_at_call 36; refine HB1.out.mono ?_; rintro e w' ⟨rfl, hw⟩; replace hw := hw.symm; subst hw)
    go_ret2
    have h := HNO.out HEO.out
    exact ⟨.slice none 0 0, by rw [h.2]; rfl, by rw [h.1]; exact World.ownsRow_nil _ _ _ _, hb1⟩
  have HYP : Hid (64 * ys.length ≥ k) := hid (by
    have h2 := ((okPack_nat (wd := 1) (n := k) ys (by decide) (by omega)).1 HO2.out).1
    rw [nWords1] at h2; omega)
  go_wp2_with (first | (go_at_call 36; refine HB1.out.mono ?_; rintro e w' ⟨rfl, hw⟩; replace hw := hw.symm; subst hw) | (go_at_call 43; refine (HBW.out w1).mono ?_; rintro e w' ⟨rfl, hw⟩; replace hw := hw.symm; subst hw))
  refine upon_make 55 (.int .u64 0) 8 Tryd.underlying22 Tryd.info45 rfl q (by omega) (by omega) (by omega) (by unfold maxLen; omega) ?_
  intro w2 hrow hb2 hsz2
  have HZ2 := hid hsz2
  have hrow2 : Row w2 w1.heap.size 55 (u64s (List.replicate q 0)) := by
    have e : u64s (List.replicate q 0) = List.replicate q (.int .u64 0) := by simp [u64s, u64]
    rw [e]; exact hrow
  have HROW := hid hrow2
  clear hsz2 hrow hrow2
  have hs01 : w.heap.size ≤ w1.heap.size := hb1.size
  go_wp2
  go_loopw [28] (fun i wr => ∃ (j : Nat) (zs : List Nat), j ≤ k ∧ i = .int .i64 j ∧ Hid (EInv m xs ys j (bitOf zs)) ∧ Hid (zs.length = q ∧ ∀ x ∈ zs, x < 18446744073709551616) ∧ Hid (Row wr w1.heap.size 55 (u64s zs)) ∧ Below w1.heap.size w1 wr ∧ Hid (wr.heap.size = w1.heap.size + 1)) (fun i _ => k - (intOf i).toNat)
  case atStart => exact ⟨0, List.replicate q 0, by omega, rfl, hid (fun p => by rw [bitOf_zeros]; simp), hid ⟨by simp, by intro x hx; rw [List.eq_of_mem_replicate hx]; omega⟩, HROW, hb2, HZ2⟩
  case round =>
    obtain ⟨j, zs, hj, rfl, HE, HZS, HRW, hb, HZ⟩ := hrel
    clear HROW hb2 HZ2
    by_cases hlt : j < k
    · obtain ⟨p, hpm, hpg, hpb, hpr⟩ := HAT.out j hlt
      obtain ⟨g, rfl, hg0, hg1, hgc, hgf⟩ := HFORM.out (by omega)
      have c2 : wr.cell? ⟨g, j, none⟩ = some (.int .i64 (p : Int)) := by
        have h3 : w1.cell? ⟨g, j, none⟩ = some (.int .i64 (p : Int)) := by
          rw [hgc j (by omega)]
          have hjl : j < I.length := by rw [HIL.out]; exact hlt
          simp only [List.getD, List.getElem?_eq_getElem hjl, Option.getD_some] at hpg
          simp [ints, List.getElem?_eq_getElem hjl, hpg]
        rw [← h3]
        exact hb.cell (p := ⟨g, j, none⟩) hg1
      have HPB := hid hpb; have HPR := hid hpr
      have HHB := hid (hasBit_any u ys j wr (HY.out.mono (bthen hb1 hb)) HVY.out HLY.out (by have := HYP.out; omega) (by omega))
      have HSB := hid (setBit_any w1.heap.size q q p zs wr HRW.out HZS.out.1 (Nat.le_refl _) (by have := HNW.out; omega) HZS.out.2 (by omega))
      have HBS := hid (bitOf_set zs p (by have := HNW.out; have := HZS.out.1; omega))
      have HS6 := hid (set_lt64 zs HZS.out.2 p)
      clear hpg hpb hpr hgc hgf
      obtain ⟨bb, hbb⟩ : ∃ bb, bitOf ys j = bb := ⟨_, rfl⟩
      rw [hbb] at HHB
      have HBB := hid hbb
      clear hbb
      cases bb
      · go_wp2_with (go_at_call 45; refine HHB.out.mono ?_; rintro e w' ⟨rfl, hw⟩; replace hw := hw.symm; subst hw)
        go_roundw
        case rel =>
          exact ⟨j + 1, zs, by omega, by go_num, hid (einv_step HE.out hpm HPB.out HPR.out (fun h => by rw [HBB.out] at h; cases h) (fun _ => rfl)), HZS, HRW, hb, HZ⟩
        case measure => simp [intOf]; omega
      · go_wp2_with (first | (go_at_call 45; refine HHB.out.mono ?_; rintro e w' ⟨rfl, hw⟩; replace hw := hw.symm; subst hw) | (go_at_call 44; refine HSB.out.mono ?_; rintro e w3 ⟨rfl, hr3, hb3, hz3, -⟩; have HR3 := hid hr3; have HZ3 := hid hz3; clear hr3 hz3))
        go_roundw
        case rel =>
          refine ⟨j + 1, _, by omega, by go_num, hid (einv_step HE.out hpm HPB.out HPR.out (fun _ => HBS.out) (fun h => by rw [HBB.out] at h; cases h)), hid ⟨by rw [List.length_set]; exact HZS.out.1, HS6.out⟩, HR3, hb.trans hb3, hid (by rw [HZ3.out]; exact HZ.out)⟩
        case measure => simp [intOf]; omega
    · go_wp2
      go_ret2
      obtain rfl : j = k := by omega
      have he := einv_end (by rw [HK.out]; exact HE.out)
      have hbm := exp_bm m xs ys zs (by rw [HZS.out.1, HQ.out]) HZS.out.2 he
      refine ⟨_, by rw [← HOK.out, HEO.out]; rfl, ?_, bthen hb1 hb⟩
      have hRR : R = zs := by rw [← HR.out, expR, if_pos HEO.out, Int.toNat_natCast, ← hbm]
      rw [hRR, HZS.out.1]
      exact HRW.out.owns hs01 (by rw [u64s_length, HZS.out.1]) (by unfold maxLen; omega)
end Go.Proofs.YtinkbgnhigpkeaaDoor
