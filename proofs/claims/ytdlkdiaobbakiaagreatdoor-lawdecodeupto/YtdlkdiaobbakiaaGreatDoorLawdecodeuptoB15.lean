/- The code's answer and the plain answer meet: whole bodies. -/
import Derived.Test.YtdlkdiaobbakiaaGreatDoorLawdecodeuptoB14
import Derived.Test.YtdlkdiaobbakiaaGreatDoorLawdecodeuptoB1
import Derived.Deep.RegionHeld3
import Derived.Test.YtdlkdiaobbakiaaGreatDoorLawdecodeuptoB0
set_option linter.unusedVariables false
set_option linter.unusedSimpArgs false
set_option linter.unnecessarySimpa false
set_option maxRecDepth 20000
namespace Go.Proofs.YtdlkdiaobbakiaaGreatDoor
open Go.RowKit

theorem payall_meet_I (cd wd k P : Nat) (xs : List Nat) (hP : P ≤ xs.length) (hk : k ≤ 65536) :
    (isCodec 1 cd && good_I (outPay_I cd wd k (xs.drop P) false)) = ((payR 1 cd wd k P xs).1 && decide ((payR 1 cd wd k P xs).2.length = k)) ∧
    (((payR 1 cd wd k P xs).1 && decide ((payR 1 cd wd k P xs).2.length = k)) = true → ∀ j, j < k → (payR 1 cd wd k P xs).2.getD j dfP =
      pK_I (vl_I cd wd (outPay_I cd wd k (xs.drop P) false).list (outPay_I cd wd k (xs.drop P) false).ends (basePay cd (xs.drop P)) (outPay_I cd wd k (xs.drop P) false).lanes j)) := by
  by_cases h1 : cd = 1
  · subst h1
    obtain ⟨m1, m2⟩ := plain_meet_I wd k P xs hP
    have e1 : payR 1 1 wd k P xs = (listOk 1 k P xs && decide (listNx 1 k P xs = xs.length) && decide (1 = 1) && decide (wd = 0), listP 1 k P xs) := by unfold payR; simp
    have e2 : outPay_I 1 wd k (xs.drop P) false = outPlain_I wd k (xs.drop P) false := by unfold outPay_I; simp
    have hll := fun ho => listP_len 1 k P xs ho (.inl rfl)
    rw [e1, e2, m1]
    refine ⟨?_, fun h j hj => ?_⟩
    · cases ho : listOk 1 k P xs
      · simp [isCodec, isKind]
      · simp [isCodec, isKind, hll ho]
    · simp only [Bool.and_eq_true, decide_eq_true_eq] at h
      have ho := h.1.1.1.1
      have hm := m2 ho
      have hl := hll ho
      rw [show listP kN_I k P xs = listP 1 k P xs from rfl] at hm
      unfold vl_I val_I
      rw [if_neg (by decide), if_pos rfl, ← hm, map_getD pK_I _ j dfI dfP]
      rw [← hm, List.length_map] at hl
      omega
  by_cases h2 : cd = 2
  · subst h2
    obtain ⟨m1, m2⟩ := dict_meet_I wd k P xs hP hk
    have e1 : payR 1 2 wd k P xs = dictR 1 wd k P xs := by unfold payR; simp
    have e2 : outPay_I 2 wd k (xs.drop P) false = outDict_I wd k (xs.drop P) false := by unfold outPay_I; simp
    rw [e1, e2, m1]
    refine ⟨by simp [isCodec, isKind], fun h j hj => ?_⟩
    rw [Bool.and_eq_true] at h
    rw [show dictR 1 wd k P xs = dictR kN_I wd k P xs from rfl, m2 h.1 j hj]
    unfold vl_I val_I
    rw [if_neg (by decide), if_neg (by decide), if_pos rfl]
  by_cases h3 : cd = 3
  · subst h3
    obtain ⟨m1, m2⟩ := runs_meet_I wd k P xs hP hk
    have e1 : payR 1 3 wd k P xs = ((runsR 1 k P xs).1 && decide (wd = 0), (runsR 1 k P xs).2) := by unfold payR; simp
    have e2 : outPay_I 3 wd k (xs.drop P) false = outRuns_I wd k (xs.drop P) false := by unfold outPay_I; simp
    rw [e1, e2, m1]
    refine ⟨by simp [isCodec, isKind], fun h j hj => ?_⟩
    simp only [Bool.and_eq_true] at h
    simp only
    rw [show runsR 1 k P xs = runsR kN_I k P xs from rfl, m2 h.1.1 h.1.2 j hj]
    unfold vl_I val_I
    rw [if_neg (by decide), if_neg (by decide), if_neg (by decide)]
  by_cases h4 : cd = 4
  · subst h4
    have e2 : outPay_I 4 wd k (xs.drop P) false = outOff wd (basePay 4 (xs.drop P)) k (tkL 8 (xs.drop P)) (tkS 8 (xs.drop P) false) := by unfold outPay_I; simp
    have e1 : payR 1 4 wd k P xs = (if numOk 8 P xs.length = false ∨ 64 < wd ∨ ¬ (1 : Nat) = 1 then (false, []) else
        (fits (sgn64 (L.wordOf 8 ((xs.drop P).take 8))) (lanesV wd k (P + 8) xs) && lanesOk wd k (P + 8) xs, (sumsL (sgn64 (L.wordOf 8 ((xs.drop P).take 8))) (lanesV wd k (P + 8) xs)).map pI)) := by unfold payR; simp
    rw [e1, e2]
    by_cases h8 : 8 ≤ xs.length - P
    rotate_left
    · rw [if_pos (.inl (by unfold numOk; exact decide_eq_false (by omega)))]
      have e4 : tkS 8 (xs.drop P) false = true := by unfold tkS; rw [dl, if_neg h8]
      rw [e4, off_short, Bool.and_false]
      exact ⟨rfl, fun h => by cases h⟩
    have hno : numOk 8 P xs.length = true := by unfold numOk; exact decide_eq_true ⟨hP, h8⟩
    have e3 : basePay 4 (xs.drop P) = sgn64 (L.wordOf 8 ((xs.drop P).take 8)) := by unfold basePay tk; rw [if_pos rfl, dl, if_pos h8]
    have e4 : tkS 8 (xs.drop P) false = false := by unfold tkS; rw [dl, if_pos h8]
    have e5 : tkL 8 (xs.drop P) = xs.drop (P + 8) := by unfold tkL; rw [dl, if_pos h8, List.drop_drop]
    by_cases hw : 64 < wd
    · rw [if_pos (.inr (.inl hw)), off_wide _ _ _ _ hw, Bool.and_false]
      exact ⟨rfl, fun h => by cases h⟩
    rw [if_neg (fun h => h.elim (fun h => by rw [hno] at h; cases h) (fun h => h.elim hw (fun h => h rfl))), e3, e4, e5]
    obtain ⟨m1, m2⟩ := off_meet wd k (P + 8) (sgn64 (L.wordOf 8 ((xs.drop P).take 8))) xs (by omega) hk
    rw [m1]
    refine ⟨by simp [isCodec], fun h j hj => ?_⟩
    rw [Bool.and_eq_true] at h
    simp only
    rw [m2 h.1 j hj]
    unfold vl_I
    rw [if_pos (.inl rfl)]
    rfl
  by_cases h5 : cd = 5
  · subst h5
    have e2 : outPay_I 5 wd k (xs.drop P) false = outOff wd 0 k (xs.drop P) false := by unfold outPay_I; simp
    have e1 : payR 1 5 wd k P xs = (if 64 < wd ∨ ¬ (1 : Nat) = 1 then (false, []) else (fits 0 (lanesV wd k P xs) && lanesOk wd k P xs, (sumsL 0 (lanesV wd k P xs)).map pI)) := by unfold payR; simp
    rw [e1, e2]
    have e3 : basePay 5 (xs.drop P) = 0 := by unfold basePay; rw [if_neg (by decide)]
    by_cases hw : 64 < wd
    · rw [if_pos (.inl hw), off_wide _ _ _ _ hw, Bool.and_false]
      exact ⟨rfl, fun h => by cases h⟩
    rw [if_neg (by omega), e3]
    obtain ⟨m1, m2⟩ := off_meet wd k P 0 xs hP hk
    rw [m1]
    refine ⟨by simp [isCodec], fun h j hj => ?_⟩
    rw [Bool.and_eq_true] at h
    simp only
    rw [m2 h.1 j hj]
    unfold vl_I
    rw [if_pos (.inr rfl)]
    rfl
  have e1 : (payR 1 cd wd k P xs).1 = false := by
    unfold payR; rw [if_neg h2, if_neg h3, if_neg h4, if_neg h5]
    simp [h1]
  have e2 : isCodec 1 cd = false := by
    unfold isCodec; rw [if_neg (by omega)]; exact decide_eq_false (by omega)
  rw [e1, e2, Bool.false_and, Bool.false_and]
  exact ⟨rfl, fun h => by cases h⟩
theorem payall_meet_S (cd wd k P : Nat) (xs : List Nat) (hP : P ≤ xs.length) (hk : k ≤ 65536) :
    (isCodec 2 cd && good_S (outPay_S cd wd k (xs.drop P) false)) = ((payR 2 cd wd k P xs).1 && decide ((payR 2 cd wd k P xs).2.length = k)) ∧
    (((payR 2 cd wd k P xs).1 && decide ((payR 2 cd wd k P xs).2.length = k)) = true → ∀ j, j < k → (payR 2 cd wd k P xs).2.getD j dfP =
      pK_S (vl_S cd wd (outPay_S cd wd k (xs.drop P) false).list (outPay_S cd wd k (xs.drop P) false).ends 0 (outPay_S cd wd k (xs.drop P) false).lanes j)) := by
  by_cases h1 : cd = 1
  · subst h1
    obtain ⟨m1, m2⟩ := plain_meet_S wd k P xs hP
    have e1 : payR 2 1 wd k P xs = (listOk 2 k P xs && decide (listNx 2 k P xs = xs.length) && decide (1 = 1) && decide (wd = 0), listP 2 k P xs) := by unfold payR; simp
    have e2 : outPay_S 1 wd k (xs.drop P) false = outPlain_S wd k (xs.drop P) false := by unfold outPay_S; simp
    have hll := fun ho => listP_len 2 k P xs ho (.inr rfl)
    rw [e1, e2, m1]
    refine ⟨?_, fun h j hj => ?_⟩
    · cases ho : listOk 2 k P xs
      · simp [isCodec, isKind]
      · simp [isCodec, isKind, hll ho]
    · simp only [Bool.and_eq_true, decide_eq_true_eq] at h
      have ho := h.1.1.1.1
      have hm := m2 ho
      have hl := hll ho
      rw [show listP kN_S k P xs = listP 2 k P xs from rfl] at hm
      unfold vl_S val_S
      rw [if_pos rfl, ← hm, map_getD pK_S _ j dfS dfP]
      rw [← hm, List.length_map] at hl
      omega
  by_cases h2 : cd = 2
  · subst h2
    obtain ⟨m1, m2⟩ := dict_meet_S wd k P xs hP hk
    have e1 : payR 2 2 wd k P xs = dictR 2 wd k P xs := by unfold payR; simp
    have e2 : outPay_S 2 wd k (xs.drop P) false = outDict_S wd k (xs.drop P) false := by unfold outPay_S; simp
    rw [e1, e2, m1]
    refine ⟨by simp [isCodec, isKind], fun h j hj => ?_⟩
    rw [Bool.and_eq_true] at h
    rw [show dictR 2 wd k P xs = dictR kN_S wd k P xs from rfl, m2 h.1 j hj]
    unfold vl_S val_S
    rw [if_neg (by decide), if_pos rfl]
  by_cases h3 : cd = 3
  · subst h3
    obtain ⟨m1, m2⟩ := runs_meet_S wd k P xs hP hk
    have e1 : payR 2 3 wd k P xs = ((runsR 2 k P xs).1 && decide (wd = 0), (runsR 2 k P xs).2) := by unfold payR; simp
    have e2 : outPay_S 3 wd k (xs.drop P) false = outRuns_S wd k (xs.drop P) false := by unfold outPay_S; simp
    rw [e1, e2, m1]
    refine ⟨by simp [isCodec, isKind], fun h j hj => ?_⟩
    simp only [Bool.and_eq_true] at h
    simp only
    rw [show runsR 2 k P xs = runsR kN_S k P xs from rfl, m2 h.1.1 h.1.2 j hj]
    unfold vl_S val_S
    rw [if_neg (by decide), if_neg (by decide)]
  have e2 : isCodec 2 cd = false := by
    unfold isCodec; rw [if_neg (by omega)]; exact decide_eq_false (by omega)
  have e1 : (payR 2 cd wd k P xs).1 = false := by
    unfold payR; rw [if_neg h2, if_neg h3]
    by_cases h4 : cd = 4
    · rw [if_pos h4, if_pos (.inr (.inr (by decide)))]
    · rw [if_neg h4]
      by_cases h5 : cd = 5
      · rw [if_pos h5, if_pos (.inr (by decide))]
      · rw [if_neg h5]; simp [h1]
  rw [e1, e2, Bool.false_and, Bool.false_and]
  exact ⟨rfl, fun h => by cases h⟩
theorem pay_short_S (cd wd k : Nat) (X : List Nat) : good_S (outPay_S cd wd k X true) = false := by
  unfold outPay_S
  split
  · unfold good_S outPlain_S
    simp only [rd_no_S, Bool.false_and]
  split
  · unfold outDict_S
    rw [tkS_true]
    split
    · rfl
    · have hno := rd_no_S (L.wordOf 8 (tk 4 X)) (tkL 4 X)
      generalize rdS (L.wordOf 8 (tk 4 X)) (tkL 4 X) true = q at *
      obtain ⟨vals, ok, xl, s1⟩ := q
      simp only at hno ⊢
      subst hno
      rfl
  · unfold outRuns_S
    rw [tkS_true, tkS_true]
    split
    · rfl
    · have hno := rd_no_S (L.wordOf 8 (tk 4 X)) (tkL (4 * L.wordOf 8 (tk 4 X)) (tkL 4 X))
      generalize rdS (L.wordOf 8 (tk 4 X)) (tkL (4 * L.wordOf 8 (tk 4 X)) (tkL 4 X)) true = q at *
      obtain ⟨vals, ok, xl, s1⟩ := q
      simp only at hno ⊢
      subst hno
      rfl
theorem rank_at (ws : List Nat) (r : Nat) (h : bitOf ws r = false) : rankN ws (r + 1) = rankN ws r := by rw [rankN_succ, h]; simp
theorem meet_I (rows : Nat) (xs : List Nat) (hrr : rows ≤ 65536) : lkOk_I rows xs = rOk 1 rows xs ∧
    (rOk 1 rows xs = true → ∀ r, r < rows → cellA_I rows xs r = cA (rWs rows xs) r ∧ cellB_I rows xs r = cB (rWs rows xs) (rPay 1 rows xs).2 r ∧ cellC_I rows xs r = cC (rWs rows xs) (rPay 1 rows xs).2 r) := by
  cases hn : numsOk 8 (rN rows) 2 xs.length
  · have e1 : rOk 1 rows xs = false := by unfold rOk rHd; rw [hn]; simp
    rw [e1]
    refine ⟨?_, fun h => by cases h⟩
    unfold lkOk_I lkOut_I
    rw [head_no rows xs hn]
    have := pay_short_I (headOf rows xs).codec (headOf rows xs).wd (cntOf rows (headOf rows xs).nulls) (headOf rows xs).left
    unfold good_I at this
    rw [this, Bool.and_false]
  · obtain ⟨a1, a2, a3, a4, a5⟩ := head_eq rows xs hn
    have hP : 2 + 8 * rN rows ≤ xs.length := by unfold numsOk at hn; rw [decide_eq_true_eq] at hn; omega
    have hkk : cntOf rows (rWs rows xs) = rK rows xs := rfl
    have hkl : rK rows xs ≤ 65536 := by unfold rK; omega
    obtain ⟨m1, m2⟩ := payall_meet_I (xs.getD 0 0) (xs.getD 1 0) (rK rows xs) (2 + 8 * rN rows) xs hP hkl
    have e0 : lkOut_I rows xs = outPay_I (xs.getD 0 0) (xs.getD 1 0) (rK rows xs) (xs.drop (2 + 8 * rN rows)) false := by
      unfold lkOut_I; rw [a1, a2, a3, a4, a5, hkk]
    have e1 : lkOk_I rows xs = (okPack 1 rows (rWs rows xs) && (isCodec 1 (xs.getD 0 0) && good_I (outPay_I (xs.getD 0 0) (xs.getD 1 0) (rK rows xs) (xs.drop (2 + 8 * rN rows)) false))) := by
      unfold lkOk_I headOk good_I; rw [e0, a1, a3, Bool.and_assoc]; rfl
    have e2 : rOk 1 rows xs = (okPack 1 rows (rWs rows xs) && ((rPay 1 rows xs).1 && decide ((rPay 1 rows xs).2.length = rK rows xs))) := by
      unfold rOk rHd; rw [hn, Bool.true_and, Bool.and_assoc]
    refine ⟨by rw [e1, e2, m1]; rfl, fun h r hr => ?_⟩
    rw [e2, Bool.and_eq_true] at h
    have hva := m2 h.2
    unfold cellA_I cellB_I cellC_I cA cB cC
    rw [a3]
    refine ⟨rfl, ?_, ?_⟩
    all_goals
      cases hb : bitOf (rWs rows xs) r
      · simp only [Bool.false_eq_true, if_false]
        rw [rank_at _ _ hb]
        have hj : r - rankN (rWs rows xs) r < rK rows xs := by
          have := rank_mono (rWs rows xs) (r + 1) rows (by omega)
          have h2 := rankN_le (rWs rows xs) r
          rw [rank_at _ _ hb] at this
          unfold rK; omega
        have := hva _ hj
        unfold rPay
        rw [this]
        unfold vAt_I lkBase_I
        rw [e0, a1, a2, a4]
        rfl
      · simp
theorem meet_S (rows : Nat) (xs : List Nat) (hrr : rows ≤ 65536) : lkOk_S rows xs = rOk 2 rows xs ∧
    (rOk 2 rows xs = true → ∀ r, r < rows → cellA_S rows xs r = cA (rWs rows xs) r ∧ cellB_S rows xs r = cB (rWs rows xs) (rPay 2 rows xs).2 r ∧ cellC_S rows xs r = cC (rWs rows xs) (rPay 2 rows xs).2 r) := by
  cases hn : numsOk 8 (rN rows) 2 xs.length
  · have e1 : rOk 2 rows xs = false := by unfold rOk rHd; rw [hn]; simp
    rw [e1]
    refine ⟨?_, fun h => by cases h⟩
    unfold lkOk_S lkOut_S
    rw [head_no rows xs hn]
    have := pay_short_S (headOf rows xs).codec (headOf rows xs).wd (cntOf rows (headOf rows xs).nulls) (headOf rows xs).left
    unfold good_S at this
    rw [this, Bool.and_false]
  · obtain ⟨a1, a2, a3, a4, a5⟩ := head_eq rows xs hn
    have hP : 2 + 8 * rN rows ≤ xs.length := by unfold numsOk at hn; rw [decide_eq_true_eq] at hn; omega
    have hkk : cntOf rows (rWs rows xs) = rK rows xs := rfl
    have hkl : rK rows xs ≤ 65536 := by unfold rK; omega
    obtain ⟨m1, m2⟩ := payall_meet_S (xs.getD 0 0) (xs.getD 1 0) (rK rows xs) (2 + 8 * rN rows) xs hP hkl
    have e0 : lkOut_S rows xs = outPay_S (xs.getD 0 0) (xs.getD 1 0) (rK rows xs) (xs.drop (2 + 8 * rN rows)) false := by
      unfold lkOut_S; rw [a1, a2, a3, a4, a5, hkk]
    have e1 : lkOk_S rows xs = (okPack 1 rows (rWs rows xs) && (isCodec 2 (xs.getD 0 0) && good_S (outPay_S (xs.getD 0 0) (xs.getD 1 0) (rK rows xs) (xs.drop (2 + 8 * rN rows)) false))) := by
      unfold lkOk_S headOk good_S; rw [e0, a1, a3, Bool.and_assoc]; rfl
    have e2 : rOk 2 rows xs = (okPack 1 rows (rWs rows xs) && ((rPay 2 rows xs).1 && decide ((rPay 2 rows xs).2.length = rK rows xs))) := by
      unfold rOk rHd; rw [hn, Bool.true_and, Bool.and_assoc]
    refine ⟨by rw [e1, e2, m1]; rfl, fun h r hr => ?_⟩
    rw [e2, Bool.and_eq_true] at h
    have hva := m2 h.2
    unfold cellA_S cellB_S cellC_S cA cB cC
    rw [a3]
    refine ⟨rfl, ?_, ?_⟩
    all_goals
      cases hb : bitOf (rWs rows xs) r
      · simp only [Bool.false_eq_true, if_false]
        rw [rank_at _ _ hb]
        have hj : r - rankN (rWs rows xs) r < rK rows xs := by
          have := rank_mono (rWs rows xs) (r + 1) rows (by omega)
          have h2 := rankN_le (rWs rows xs) r
          rw [rank_at _ _ hb] at this
          unfold rK; omega
        have := hva _ hj
        unfold rPay
        rw [this]
        unfold vAt_S lkBase_S
        rw [e0, a1, a2]
        rfl
      · simp
theorem cellsUp_ext {A A' : Nat → Bool} {B B' : Nat → Int} {C C' : Nat → ByteArray} (n : Nat) (h : ∀ r, r < n → A r = A' r ∧ B r = B' r ∧ C r = C' r) : cellsUp A B C n = cellsUp A' B' C' n := by
  induction n with
  | zero => rfl
  | succ n ih =>
    rw [cellsUp, cellsUp, ih (fun r hr => h r (by omega))]
    obtain ⟨h1, h2, h3⟩ := h n (by omega)
    rw [h1, h2, h3]
/-- Decode and Gather of the code and of the document answer alike -/
theorem dec_meet (k rows : Int) (xs : List Nat) : decCode k rows xs = refCode k rows xs ∧ decCells k rows xs = refCells k rows xs ∧ decLen k rows xs = refLen k rows xs := by
  have hcode : decCode k rows xs = refCode k rows xs := by
    unfold decCode refCode
    by_cases hg : (isKind k && isRows rows) = true
    · rw [if_pos hg, if_pos hg]
      simp only [Bool.and_eq_true] at hg
      have hr2 : 0 ≤ rows ∧ rows ≤ 65536 := by simpa [isRows] using hg.2
      have hk : k = 1 ∨ k = 2 := by simpa [isKind] using hg.1
      rcases hk with rfl | rfl
      · rw [if_neg (by decide), (meet_I rows.toNat xs (by omega)).1]; rfl
      · rw [if_pos rfl, (meet_S rows.toNat xs (by omega)).1]; rfl
    · rw [if_neg hg, if_neg hg]
  refine ⟨hcode, ?_, ?_⟩
  · unfold decCells refCells
    rw [hcode]
    by_cases h0 : refCode k rows xs = 0
    · rw [if_pos h0, if_pos h0]
      unfold refCode at h0
      split at h0
      · rename_i hg
        simp only [Bool.and_eq_true] at hg
        have hr2 : 0 ≤ rows ∧ rows ≤ 65536 := by simpa [isRows] using hg.2
        have hk : k = 1 ∨ k = 2 := by simpa [isKind] using hg.1
        have hok : rOk k.toNat rows.toNat xs = true := by
          split at h0
          · assumption
          · cases h0
        rcases hk with rfl | rfl
        · rw [if_neg (by decide)]
          exact cellsUp_ext _ ((meet_I rows.toNat xs (by omega)).2 hok)
        · rw [if_pos rfl]
          exact cellsUp_ext _ ((meet_S rows.toNat xs (by omega)).2 hok)
      · cases h0
    · rw [if_neg h0, if_neg h0]
  · unfold decLen refLen; rw [hcode]
theorem gat_meet (k rows : Int) (xs : List Nat) (ps : List Int) : gatCode k rows xs ps = rgCode k rows xs ps ∧ gatCells k rows xs ps = rgCells k rows xs ps ∧ gatLen k rows xs ps = rgLen k rows xs ps := by
  have hcode : gatCode k rows xs ps = rgCode k rows xs ps := by
    unfold gatCode rgCode
    by_cases hg : (isKind k && isRows rows && arePl ps rows) = true
    · rw [if_pos hg, if_pos hg]
      simp only [Bool.and_eq_true] at hg
      have hr2 : 0 ≤ rows ∧ rows ≤ 65536 := by simpa [isRows] using hg.1.2
      have hk : k = 1 ∨ k = 2 := by simpa [isKind] using hg.1.1
      rcases hk with rfl | rfl
      · rw [if_neg (by decide), (meet_I rows.toNat xs (by omega)).1]; rfl
      · rw [if_pos rfl, (meet_S rows.toNat xs (by omega)).1]; rfl
    · rw [if_neg hg, if_neg hg]
  refine ⟨hcode, ?_, ?_⟩
  · unfold gatCells rgCells
    rw [hcode]
    by_cases h0 : rgCode k rows xs ps = 0
    · rw [if_pos h0, if_pos h0]
      unfold rgCode at h0
      split at h0
      · rename_i hg
        simp only [Bool.and_eq_true] at hg
        have hr2 : 0 ≤ rows ∧ rows ≤ 65536 := by simpa [isRows] using hg.1.2
        have hk : k = 1 ∨ k = 2 := by simpa [isKind] using hg.1.1
        have hps := hg.2
        unfold arePl at hps
        simp only [Bool.and_eq_true, decide_eq_true_eq, List.all_eq_true] at hps
        have hin : ∀ i, i < ps.length → (ps.getD i 0).toNat < rows.toNat := fun i hi => by
          have := hps.2 (ps.getD i 0) (by simp [List.getD, List.getElem?_eq_getElem hi])
          omega
        have hok : rOk k.toNat rows.toNat xs = true := by
          split at h0
          · assumption
          · cases h0
        rcases hk with rfl | rfl
        · rw [if_neg (by decide)]
          exact cellsUp_ext _ (fun i hi => (meet_I rows.toNat xs (by omega)).2 hok _ (hin i hi))
        · rw [if_pos rfl]
          exact cellsUp_ext _ (fun i hi => (meet_S rows.toNat xs (by omega)).2 hok _ (hin i hi))
      · cases h0
    · rw [if_neg h0, if_neg h0]
  · unfold gatLen rgLen; rw [hcode]
end Go.Proofs.YtdlkdiaobbakiaaGreatDoor

/- LawDecode's walk. -/
set_option linter.unusedVariables false
set_option linter.unusedSimpArgs false
set_option linter.unnecessarySimpa false
set_option maxRecDepth 100000
namespace Go.Proofs.YtdlkdiaobbakiaaGreatDoor
open Go.RowKit

theorem tailI_len (m : Nat) : (tailI m).length = m := by simp [tailI]
theorem row_layB {w : World} {g m : Nat} {xs : List Nat} (h : Row w g 5 (u8s (xs ++ tailB m))) (hl : xs.length + m ≤ maxLen) :
    Rd w (.slice (some ⟨g, 0, none⟩) (xs.length + m) (xs.length + m)) (xs ++ tailB m).length 1 (u8s (xs ++ tailB m)) := by
  have e : (xs ++ tailB m).length = xs.length + m := by simp [tailB_length]
  rw [e]
  exact h.rd' (by rw [u8s_length, e]) hl
theorem row_partB {w : World} {g m : Nat} {xs : List Nat} (h : Row w g 5 (u8s (xs ++ tailB m))) (hl : xs.length + m ≤ maxLen) :
    Rd w (.slice (some ⟨g, 0, none⟩) xs.length (xs.length + m)) xs.length 1 (u8s xs) := by
  have := h.rd 0 xs.length (xs.length + m) (by simp [u8s]) (by omega) hl
  rw [List.drop_zero, u8s_append, ← u8s_length xs, List.take_left] at this
  rwa [u8s_length] at this
theorem row_layI2 {w : World} {g m : Nat} {xs : List Int} (h : Row w g 3 (i64s (xs ++ tailI m))) (hl : xs.length + m ≤ maxLen) :
    Rd w (.slice (some ⟨g, 0, none⟩) (xs.length + m) (xs.length + m)) (xs ++ tailI m).length 1 (i64s (xs ++ tailI m)) := by
  have e : (xs ++ tailI m).length = xs.length + m := by simp [tailI_len]
  rw [e]
  exact h.rd' (by rw [i64s_length, e]) hl
theorem row_partI2 {w : World} {g m : Nat} {xs : List Int} (h : Row w g 3 (i64s (xs ++ tailI m))) (hl : xs.length + m ≤ maxLen) :
    Rd w (.slice (some ⟨g, 0, none⟩) xs.length (xs.length + m)) xs.length 1 (i64s xs) := by
  have := h.rd 0 xs.length (xs.length + m) (by simp [i64s]) (by omega) hl
  rw [List.drop_zero, i64s_append, ← i64s_length xs, List.take_left] at this
  rwa [i64s_length] at this
theorem refCells_form (k rows : Int) (xs : List Nat) : ∃ A B C, refCells k rows xs = cellsUp A B C (refLen k rows xs) ∧ refLen k rows xs ≤ 1048576 := by
  unfold refCells refLen
  by_cases h : refCode k rows xs = 0
  · refine ⟨cA (rWs rows.toNat xs), cB (rWs rows.toNat xs) (rPay k.toNat rows.toNat xs).2, cC (rWs rows.toNat xs) (rPay k.toNat rows.toNat xs).2, ?_⟩
    rw [if_pos h, if_pos h]
    refine ⟨rfl, ?_⟩
    unfold refCode at h
    split at h
    · rename_i hg
      simp only [Bool.and_eq_true] at hg
      have hr2 : 0 ≤ rows ∧ rows ≤ 65536 := by simpa [isRows] using hg.2
      omega
    · cases h
  · exact ⟨fun _ => false, fun _ => 0, fun _ => ByteArray.empty, by rw [if_neg h, if_neg h]; exact ⟨rfl, by omega⟩⟩
theorem rgCells_form (k rows : Int) (xs : List Nat) (ps : List Int) (hpl : ps.length ≤ 1048576) : ∃ A B C, rgCells k rows xs ps = cellsUp A B C (rgLen k rows xs ps) ∧ rgLen k rows xs ps ≤ 1048576 := by
  unfold rgCells rgLen
  by_cases h : rgCode k rows xs ps = 0
  · rw [if_pos h, if_pos h]
    exact ⟨_, _, _, rfl, hpl⟩
  · exact ⟨fun _ => false, fun _ => 0, fun _ => ByteArray.empty, by rw [if_neg h, if_neg h]; exact ⟨rfl, by omega⟩⟩
theorem DecodeM_any (w : World) (v : Value) (xs : List Nat) (k rows : Int) (hT : Tab w) (hv : Rd w v xs.length 1 (u8s xs)) (hb : ∀ x ∈ xs, x < 256) (hl : xs.length ≤ 1048576) :
    Calls Tryz.prog 7 #[.int .i64 k, .int .i64 rows, v] w fun e w' => ∃ u, e = .returned (.tuple #[u, .int .i64 (refCode k rows xs)]) ∧ Rd w' u (refLen k rows xs) 3 (refCells k rows xs) ∧ Below w.heap.size w w' := by
  obtain ⟨m1, m2, m3⟩ := dec_meet k rows xs
  refine (Decode_any w v xs k rows hT hv hb hl (fun rows h hr => valid_I rows xs hb hl hr h) (fun rows h hr => valid_S rows xs hb hl hr h)).mono ?_
  rintro e w' ⟨h1, u, h2, h3⟩
  rw [m1] at h2
  rw [m2, m3] at h3
  exact ⟨u, h2, h3, h1⟩
theorem GatherM_any (w : World) (v u : Value) (xs : List Nat) (ps : List Int) (k rows : Int) (hT : Tab w) (hv : Rd w v xs.length 1 (u8s xs)) (hu : Rd w u ps.length 1 (i64s ps)) (hb : ∀ x ∈ xs, x < 256) (hl : xs.length ≤ 1048576) (hpl : ps.length ≤ 1048576) :
    Calls Tryz.prog 10 #[.int .i64 k, .int .i64 rows, v, u] w fun e w' => ∃ t, e = .returned (.tuple #[t, .int .i64 (rgCode k rows xs ps)]) ∧ Rd w' t (rgLen k rows xs ps) 3 (rgCells k rows xs ps) ∧ Below w.heap.size w w' := by
  obtain ⟨m1, m2, m3⟩ := gat_meet k rows xs ps
  refine (Gather_any w v u xs ps k rows hT hv hu hb hl hpl (fun rows h hr => valid_I rows xs hb hl hr h) (fun rows h hr => valid_S rows xs hb hl hr h)).mono ?_
  rintro e w' ⟨h1, t, h2, h3⟩
  rw [m1] at h2
  rw [m2, m3] at h3
  exact ⟨t, h2, h3, h1⟩

set_option maxHeartbeats 16000000 in
theorem lawDecode_walk (v2 v3 : Value) (xs : List Nat) (ps : List Int) (k n r : Int) (w : World) (ht : Tab w) (hx : Rd w v2 xs.length 1 (u8s xs)) (hp : Rd w v3 ps.length 1 (i64s ps))
    (hb : ∀ x ∈ xs, x < 256) (hlx : xs.length ≤ 1048576) (hlp : ps.length ≤ 1048576) :
    Calls Tryz.prog 3 #[.int .i64 k, .int .i64 n, v2, v3, .int .i64 r] w fun e w' => e = .returned (.bool true) ∧ Below w.heap.size w w' := by
  have hm := clipN_le r
  obtain ⟨m, hmr⟩ : ∃ m, clipN r = m := ⟨_, rfl⟩
  rw [hmr] at hm
  have HMR := hid hmr
  have HX := hid hx; have HP := hid hp; have HB := hid hb; have HT := hid ht
  have HTL := hid ht.lt
  have HMX : Hid (xs.length + m ≤ maxLen) := hid (by unfold maxLen; omega)
  have HMP : Hid (ps.length + m ≤ maxLen) := hid (by unfold maxLen; omega)
  have HDC := hid (fun (w2 : World) (v : Value) (h : Below w.heap.size w w2) (hv : Rd w2 v xs.length 1 (u8s xs)) => DecodeM_any w2 v xs k n (ht.mono h ht.lt) hv hb hlx)
  have HDR := hid (fun (w2 : World) (h : Below w.heap.size w w2) => refDecode_any k n v2 xs w2 (hx.mono h) hb hlx)
  have HGC := hid (fun (w2 : World) (v u : Value) (h : Below w.heap.size w w2) (hv : Rd w2 v xs.length 1 (u8s xs)) (hu : Rd w2 u ps.length 1 (i64s ps)) => GatherM_any w2 v u xs ps k n (ht.mono h ht.lt) hv hu hb hlx hlp)
  have HGR := hid (fun (w2 : World) (h : Below w.heap.size w w2) => refGather_any k n v2 v3 xs ps w2 (hx.mono h) (hp.mono h) hb hlx hlp)
  obtain ⟨FA, FB, FC, hf1, hf2⟩ := refCells_form k n xs
  obtain ⟨GA, GB, GC, hg1, hg2⟩ := rgCells_form k n xs ps hlp
  rw [hf1] at HDC HDR
  rw [hg1] at HGC HGR
  clear hf1 hg1
  generalize refCode k n xs = c1 at *
  generalize refLen k n xs = n1 at *
  generalize rgCode k n xs ps = c2 at *
  generalize rgLen k n xs ps = n2 at *
  have HSC := hid (fun (x y : Value) (w2 : World) (h1 : Rd w2 x n1 3 (cellsUp FA FB FC n1)) (h2 : Rd w2 y n1 3 (cellsUp FA FB FC n1)) => sameCells_same x y n1 FA FB FC w2 h1 h2 hf2)
  have HSG := hid (fun (x y : Value) (w2 : World) (h1 : Rd w2 x n2 3 (cellsUp GA GB GC n2)) (h2 : Rd w2 y n2 3 (cellsUp GA GB GC n2)) => sameCells_same x y n2 GA GB GC w2 h1 h2 hg2)
  generalize cellsUp FA FB FC n1 = CF at *
  generalize cellsUp GA GB GC n2 = CG at *
  obtain ⟨A2, ca2, rfl, _, _, _⟩ := hx.form
  obtain ⟨A3, ca3, rfl, _, _, _⟩ := hp.form
  clear hmr hx hp hb ht
  have e1 : (c1 != c1) = false := by simp
  have e2 : (c2 == c2) = true := by simp
  go_enter Tryz.func3, Tryz.ntmps3
  go_wp2_with fail
  refine (layBytes_any _ xs r _ HX.out (by omega)).mono ?_
  rintro e w1 ⟨rfl, hr1, hb1, hz1⟩
  rw [HMR.out] at hr1
  rw [HMR.out]
  have HR1 := hid hr1; have HB1 := hid hb1
  clear hr1 hb1 hz1
  go_wp2_with fail
  refine (layInts_any _ ps r _ (HP.out.mono HB1.out) (by omega)).mono ?_
  rintro e w2 ⟨rfl, hr2, hb2, hz2⟩
  rw [HMR.out] at hr2
  rw [HMR.out]
  have HR2 := hid hr2; have HB2 := hid (bthen HB1.out hb2)
  have HR1b := hid (HR1.out.mono hb2)
  clear hr2 hb2 hz2 HR1
  have HFX := hid (row_partB HR1b.out HMX.out)
  have HFP := hid (row_partI2 HR2.out HMP.out)
  go_wp2_with (go_at_call 7; refine (HDC.out w2 _ HB2.out HFX.out).mono ?_; rintro e w3 ⟨u1, rfl, hrd1, hb3⟩; have HU1 := hid hrd1; have HB3 := hid hb3; obtain ⟨D1, d1, rfl, _, _, _⟩ := hrd1.form; clear hrd1 hb3)
  refine (HDR.out w3 (bthen HB2.out HB3.out)).mono ?_
  rintro e w4 ⟨u2, rfl, ho2, hb4⟩
  have HU2 := hid (owns3_rd ho2)
  have HU1b := hid (HU1.out.mono hb4)
  have HB4 := hid (bthen HB3.out hb4)
  obtain ⟨D2, d2, rfl⟩ := owns3_form ho2
  clear ho2 hb4 HU1
  go_upto_region 7 with (go_at_call 9; refine (HSC.out _ _ w4 HU1b.out HU2.out).mono ?_; rintro e w5 ⟨rfl, nd5, rfl⟩)
  have HB5 : Hid (Below w2.heap.size w2 (w4.drewN nd5)) := hid (bdrew HB4.out nd5)
  generalize w4.drewN nd5 = w5 at *
  have HFX5 := hid (HFX.out.mono HB5.out)
  have HFP5 := hid (HFP.out.mono HB5.out)
  have HB05 := hid (bthen HB2.out HB5.out)
  have HGW := hid (fun (w6 : World) (h : Below w5.heap.size w5 w6) => HGC.out w6 _ _ (bthen HB05.out h) (HFX5.out.mono h) (HFP5.out.mono h))
  clear HU1b HU2 HB3 HB4 HFX HFP HDC HDR HSC
  have s1 : (xs.length : Int) ≤ (xs.length : Int) + (m : Int) := by omega
  have s2 : (ps.length : Int) ≤ (ps.length : Int) + (m : Int) := by omega
  have s3 : xs.length ≤ xs.length + m := by omega
  have s4 : ps.length ≤ ps.length + m := by omega
  go_region_held3 (fun w' => True) (trivial)
    (first | (go_at_call 10; refine (HGW.out _ (bdrew (brefl w5) 1)).mono ?_; rintro e w6 ⟨u3, rfl, hrd3, hb6⟩; have HU3 := hid hrd3; have HB6 := hid ((bdrew (brefl w5) 1).trans hb6); obtain ⟨D3, d3, rfl, _, _, _⟩ := hrd3.form; clear hrd3 hb6))
  have HB06 := hid (bthen HB05.out HB6.out)
  go_wp2_with fail
  refine (HGR.out w6 HB06.out).mono ?_
  rintro e w7 ⟨u4, rfl, ho4, hb7⟩
  have HU4 := hid (owns3_rd ho4)
  have HU3b := hid (HU3.out.mono hb7)
  have HB27 := hid (bthen (bthen HB5.out HB6.out) hb7)
  obtain ⟨D4, d4, rfl⟩ := owns3_form ho4
  clear ho4 hb7 HU3 HGW HGC HGR HB06 HB6 HFX5 HFP5 HB5 HB05
  have HR17 := hid (HR1b.out.mono HB27.out)
  have HR27 := hid (HR2.out.mono HB27.out)
  have HB07 := hid (bthen HB2.out HB27.out)
  clear HR1b HR2 HB27
  go_wp2_with (first
    | (go_at_call 9; refine (HSG.out _ _ w7 HU3b.out HU4.out).mono ?_; rintro e w8 ⟨rfl, nd8, rfl⟩; have HB08 : Hid (Below w7.heap.size w7 (w7.drewN nd8)) := hid (bdrew (brefl w7) nd8))
    | (go_at_call 5; refine (layBytes_any _ xs r _ (HX.out.mono (bthen HB07.out HB08.out)) (by omega)).mono ?_; rintro e w9 ⟨rfl, hr9, hb9, hz9⟩; rw [HMR.out] at hr9; rw [HMR.out]; have HR9 := hid hr9; have HB9 := hid (bthen HB08.out hb9); clear hr9 hb9 hz9)
    | (go_at_call 12; refine (sameBytes_same _ _ (xs ++ tailB m) _ (row_layB (HR17.out.mono HB9.out) HMX.out) (row_layB HR9.out HMX.out)).mono ?_; rintro e w10 ⟨rfl, hw⟩; replace hw := hw.symm; subst hw)
    | (go_at_call 6; refine (layInts_any _ ps r _ (HP.out.mono (bthen HB07.out HB9.out)) (by omega)).mono ?_; rintro e w11 ⟨rfl, hr11, hb11, hz11⟩; rw [HMR.out] at hr11; rw [HMR.out]; have HR11 := hid hr11; have HB11 := hid (bthen HB9.out hb11); clear hr11 hb11 hz11)
    | (go_at_call 13; refine (sameInts_same _ _ (ps ++ tailI m) _ (row_layI2 (HR27.out.mono HB11.out) HMP.out) (row_layI2 HR11.out HMP.out) (by have := HMP.out; rw [List.length_append, tailI_len]; exact this)).mono ?_; rintro e w12 ⟨rfl, nd12, rfl⟩))
  go_ret
  exact ⟨rfl, bdrew (bthen HB07.out HB11.out) nd12⟩
end Go.Proofs.YtdlkdiaobbakiaaGreatDoor

/- From the row's hypotheses to lists of words. -/
set_option maxRecDepth 512
set_option linter.unusedVariables false
set_option linter.unusedSimpArgs false
set_option linter.unnecessarySimpa false
namespace Go.Proofs.YtdlkdiaobbakiaaGreatDoor
open Go.RowKit

theorem wf_u64_nat {n : Int} (h : (Lit.int .u64 n).wf = true) : 0 ≤ n ∧ n < 18446744073709551616 := by
  simp [Lit.wf, IntKind.min, IntKind.max, IntKind.signed, IntKind.bits] at h; omega
theorem u64s_of (zs : List Int) (h : ∀ n ∈ zs, (Lit.int .u64 n).wf = true) : zs.map (Value.int .u64) = u64s (zs.map Int.toNat) ∧ ∀ x ∈ zs.map Int.toNat, x < 18446744073709551616 := by
  constructor
  · simp only [u64s, u64, List.map_map]
    apply List.map_congr_left
    intro n hn
    have := wf_u64_nat (h n hn)
    simp only [Function.comp]
    congr 1; omega
  · intro x hx
    obtain ⟨n, hn, rfl⟩ := List.mem_map.1 hx
    have := wf_u64_nat (h n hn); omega
/-- a slice of words that came in, as the walks want it -/
theorem open_words {H : Type} {enc : TypeId × Value → H} {P : Program} {w : World} {base : Nat} {held : Bool} {t e : TypeId} {a : Option Addr} {len cap : Nat} {x : DataW H × List MemPlace}
    (ht : P.underlying t = some (.slice e)) (he : P.underlying e = some (.int .u64)) (hc : P.cellsOf e = 1) (h : ∃ fuel, DataW.trod enc P w base (fun _ => true) held fuel t (Value.slice a len cap).cells.toList = some x) :
    ∃ xs : List Nat, Rd w (.slice a len cap) xs.length 1 (u64s xs) ∧ (∀ y ∈ xs, y < 18446744073709551616) ∧ (xs = [] ∨ ∃ elems sp, x.1 = .slice elems sp ∧ elems.length = xs.length) := by
  obtain ⟨zs, hl, hr, hw, hs⟩ := open_ints_rd ht he hc h
  obtain ⟨h1, h2⟩ := u64s_of zs hw
  refine ⟨zs.map Int.toNat, ?_, h2, ?_⟩
  · rw [h1] at hr; simpa using hr
  · simpa using hs
/-- its length, by the form's own reach: eight bytes a word -/
theorem words_reach {H : Type} {P : Program} {ts : List TypeId} {ds : List (DataW H)} (h : (DataW.weightsEach P ts ds).all (· ≤ reachBytes) = true) {j : Nat} {t e : TypeId} {d : DataW H} (ht : ts[j]? = some t) (hd : ds[j]? = some d) (hu : P.underlying t = some (.slice e))
    (hb : P.bytesOf e = 8) {xs : List Nat} (hs : xs = [] ∨ ∃ elems sp, d = .slice elems sp ∧ elems.length = xs.length) : xs.length ≤ 17592186044416 := by
  rcases hs with rfl | ⟨elems, sp, rfl, hl⟩
  · simp
  · have := sized_slice h ht hd hu
    have h2 := reachBytes_lt
    rw [hb] at this
    have h3 : elems.length * 8 ≤ (elems.length + sp.length) * 8 := Nat.mul_le_mul_right 8 (by omega)
    have h4 : (2 : Nat) ^ 47 = 140737488355328 := by decide
    omega
end Go.Proofs.YtdlkdiaobbakiaaGreatDoor

/- From the row's hypotheses to lists of bytes. -/
set_option maxRecDepth 512
set_option linter.unusedVariables false
set_option linter.unusedSimpArgs false
set_option linter.unnecessarySimpa false
namespace Go.Proofs.YtdlkdiaobbakiaaGreatDoor
open Go.RowKit

theorem wf_u8_nat {n : Int} (h : (Lit.int .u8 n).wf = true) : 0 ≤ n ∧ n < 256 := by
  simp [Lit.wf, IntKind.min, IntKind.max, IntKind.signed, IntKind.bits] at h; omega
theorem u8s_of (zs : List Int) (h : ∀ n ∈ zs, (Lit.int .u8 n).wf = true) : zs.map (Value.int .u8) = u8s (zs.map Int.toNat) ∧ ∀ x ∈ zs.map Int.toNat, x < 256 := by
  constructor
  · simp only [u8s, u8, List.map_map]
    apply List.map_congr_left
    intro n hn
    have := wf_u8_nat (h n hn)
    simp only [Function.comp]
    congr 1; omega
  · intro x hx
    obtain ⟨n, hn, rfl⟩ := List.mem_map.1 hx
    have := wf_u8_nat (h n hn); omega
/-- a slice of bytes that came in, as the walks want it -/
theorem open_bytes {H : Type} {enc : TypeId × Value → H} {P : Program} {w : World} {base : Nat} {held : Bool} {t e : TypeId} {a : Option Addr} {len cap : Nat} {x : DataW H × List MemPlace}
    (ht : P.underlying t = some (.slice e)) (he : P.underlying e = some (.int .u8)) (hc : P.cellsOf e = 1) (h : ∃ fuel, DataW.trod enc P w base (fun _ => true) held fuel t (Value.slice a len cap).cells.toList = some x) :
    ∃ xs : List Nat, Rd w (.slice a len cap) xs.length 1 (u8s xs) ∧ (∀ y ∈ xs, y < 256) ∧ (xs = [] ∨ ∃ elems sp, x.1 = .slice elems sp ∧ elems.length = xs.length) := by
  obtain ⟨zs, hl, hr, hw, hs⟩ := open_ints_rd ht he hc h
  obtain ⟨h1, h2⟩ := u8s_of zs hw
  refine ⟨zs.map Int.toNat, ?_, h2, ?_⟩
  · rw [h1] at hr; simpa using hr
  · simpa using hs
end Go.Proofs.YtdlkdiaobbakiaaGreatDoor
