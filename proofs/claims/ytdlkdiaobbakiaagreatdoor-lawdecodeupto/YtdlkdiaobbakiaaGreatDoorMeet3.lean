/- The code's answer and the plain answer meet: whole bodies. -/
import Derived.Test.YtdlkdiaobbakiaaGreatDoorMeet2
import Derived.Test.YtdlkdiaobbakiaaGreatDoorGath
set_option linter.unusedVariables false
set_option linter.unusedSimpArgs false
set_option linter.unnecessarySimpa false
set_option maxRecDepth 20000
namespace Go.Proofs.YtdlkdiaobbakiaaGreatDoor
open Go.RowKit

theorem payall_meet_I (cd wd k P : Nat) (xs : List Nat) (hP : P ≤ xs.length) (hk : k ≤ 65536) :
    (isCodec 1 cd && good_I (outPay_I cd wd k (xs.drop P) false)) = ((payR 1 cd wd k P xs).1 && decide ((payR 1 cd wd k P xs).2.length = k)) ∧
    (((payR 1 cd wd k P xs).1 && decide ((payR 1 cd wd k P xs).2.length = k)) = true → ∀ j, j < k → (payR 1 cd wd k P xs).2.getD j dfP =
      pK_I (vl_I cd wd (outPay_I cd wd k (xs.drop P) false).list (outPay_I cd wd k (xs.drop P) false).ends (basePay cd (xs.drop P)) (outPay_I cd wd k (xs.drop P) false).lanes j)) := by
  by_cases h1 : cd = 1
  · subst h1
    obtain ⟨m1, m2⟩ := plain_meet_I wd k P xs hP
    have e1 : payR 1 1 wd k P xs = (listOk 1 k P xs && decide (listNx 1 k P xs = xs.length) && decide (1 = 1) && decide (wd = 0), listP 1 k P xs) := by unfold payR; simp
    have e2 : outPay_I 1 wd k (xs.drop P) false = outPlain_I wd k (xs.drop P) false := by unfold outPay_I; simp
    have hll := fun ho => listP_len 1 k P xs ho (.inl rfl)
    rw [e1, e2, m1]
    refine ⟨?_, fun h j hj => ?_⟩
    · cases ho : listOk 1 k P xs
      · simp [isCodec, isKind]
      · simp [isCodec, isKind, hll ho]
    · simp only [Bool.and_eq_true, decide_eq_true_eq] at h
      have ho := h.1.1.1.1
      have hm := m2 ho
      have hl := hll ho
      rw [show listP kN_I k P xs = listP 1 k P xs from rfl] at hm
      unfold vl_I val_I
      rw [if_neg (by decide), if_pos rfl, ← hm, map_getD pK_I _ j dfI dfP]
      rw [← hm, List.length_map] at hl
      omega
  by_cases h2 : cd = 2
  · subst h2
    obtain ⟨m1, m2⟩ := dict_meet_I wd k P xs hP hk
    have e1 : payR 1 2 wd k P xs = dictR 1 wd k P xs := by unfold payR; simp
    have e2 : outPay_I 2 wd k (xs.drop P) false = outDict_I wd k (xs.drop P) false := by unfold outPay_I; simp
    rw [e1, e2, m1]
    refine ⟨by simp [isCodec, isKind], fun h j hj => ?_⟩
    rw [Bool.and_eq_true] at h
    rw [show dictR 1 wd k P xs = dictR kN_I wd k P xs from rfl, m2 h.1 j hj]
    unfold vl_I val_I
    rw [if_neg (by decide), if_neg (by decide), if_pos rfl]
  by_cases h3 : cd = 3
  · subst h3
    obtain ⟨m1, m2⟩ := runs_meet_I wd k P xs hP hk
    have e1 : payR 1 3 wd k P xs = ((runsR 1 k P xs).1 && decide (wd = 0), (runsR 1 k P xs).2) := by unfold payR; simp
    have e2 : outPay_I 3 wd k (xs.drop P) false = outRuns_I wd k (xs.drop P) false := by unfold outPay_I; simp
    rw [e1, e2, m1]
    refine ⟨by simp [isCodec, isKind], fun h j hj => ?_⟩
    simp only [Bool.and_eq_true] at h
    simp only
    rw [show runsR 1 k P xs = runsR kN_I k P xs from rfl, m2 h.1.1 h.1.2 j hj]
    unfold vl_I val_I
    rw [if_neg (by decide), if_neg (by decide), if_neg (by decide)]
  by_cases h4 : cd = 4
  · subst h4
    have e2 : outPay_I 4 wd k (xs.drop P) false = outOff wd (basePay 4 (xs.drop P)) k (tkL 8 (xs.drop P)) (tkS 8 (xs.drop P) false) := by unfold outPay_I; simp
    have e1 : payR 1 4 wd k P xs = (if numOk 8 P xs.length = false ∨ 64 < wd ∨ ¬ (1 : Nat) = 1 then (false, []) else
        (fits (sgn64 (L.wordOf 8 ((xs.drop P).take 8))) (lanesV wd k (P + 8) xs) && lanesOk wd k (P + 8) xs, (sumsL (sgn64 (L.wordOf 8 ((xs.drop P).take 8))) (lanesV wd k (P + 8) xs)).map pI)) := by unfold payR; simp
    rw [e1, e2]
    by_cases h8 : 8 ≤ xs.length - P
    rotate_left
    · rw [if_pos (.inl (by unfold numOk; exact decide_eq_false (by omega)))]
      have e4 : tkS 8 (xs.drop P) false = true := by unfold tkS; rw [dl, if_neg h8]
      rw [e4, off_short, Bool.and_false]
      exact ⟨rfl, fun h => by cases h⟩
    have hno : numOk 8 P xs.length = true := by unfold numOk; exact decide_eq_true ⟨hP, h8⟩
    have e3 : basePay 4 (xs.drop P) = sgn64 (L.wordOf 8 ((xs.drop P).take 8)) := by unfold basePay tk; rw [if_pos rfl, dl, if_pos h8]
    have e4 : tkS 8 (xs.drop P) false = false := by unfold tkS; rw [dl, if_pos h8]
    have e5 : tkL 8 (xs.drop P) = xs.drop (P + 8) := by unfold tkL; rw [dl, if_pos h8, List.drop_drop]
    by_cases hw : 64 < wd
    · rw [if_pos (.inr (.inl hw)), off_wide _ _ _ _ hw, Bool.and_false]
      exact ⟨rfl, fun h => by cases h⟩
    rw [if_neg (fun h => h.elim (fun h => by rw [hno] at h; cases h) (fun h => h.elim hw (fun h => h rfl))), e3, e4, e5]
    obtain ⟨m1, m2⟩ := off_meet wd k (P + 8) (sgn64 (L.wordOf 8 ((xs.drop P).take 8))) xs (by omega) hk
    rw [m1]
    refine ⟨by simp [isCodec], fun h j hj => ?_⟩
    rw [Bool.and_eq_true] at h
    simp only
    rw [m2 h.1 j hj]
    unfold vl_I
    rw [if_pos (.inl rfl)]
    rfl
  by_cases h5 : cd = 5
  · subst h5
    have e2 : outPay_I 5 wd k (xs.drop P) false = outOff wd 0 k (xs.drop P) false := by unfold outPay_I; simp
    have e1 : payR 1 5 wd k P xs = (if 64 < wd ∨ ¬ (1 : Nat) = 1 then (false, []) else (fits 0 (lanesV wd k P xs) && lanesOk wd k P xs, (sumsL 0 (lanesV wd k P xs)).map pI)) := by unfold payR; simp
    rw [e1, e2]
    have e3 : basePay 5 (xs.drop P) = 0 := by unfold basePay; rw [if_neg (by decide)]
    by_cases hw : 64 < wd
    · rw [if_pos (.inl hw), off_wide _ _ _ _ hw, Bool.and_false]
      exact ⟨rfl, fun h => by cases h⟩
    rw [if_neg (by omega), e3]
    obtain ⟨m1, m2⟩ := off_meet wd k P 0 xs hP hk
    rw [m1]
    refine ⟨by simp [isCodec], fun h j hj => ?_⟩
    rw [Bool.and_eq_true] at h
    simp only
    rw [m2 h.1 j hj]
    unfold vl_I
    rw [if_pos (.inr rfl)]
    rfl
  have e1 : (payR 1 cd wd k P xs).1 = false := by
    unfold payR; rw [if_neg h2, if_neg h3, if_neg h4, if_neg h5]
    simp [h1]
  have e2 : isCodec 1 cd = false := by
    unfold isCodec; rw [if_neg (by omega)]; exact decide_eq_false (by omega)
  rw [e1, e2, Bool.false_and, Bool.false_and]
  exact ⟨rfl, fun h => by cases h⟩
theorem payall_meet_S (cd wd k P : Nat) (xs : List Nat) (hP : P ≤ xs.length) (hk : k ≤ 65536) :
    (isCodec 2 cd && good_S (outPay_S cd wd k (xs.drop P) false)) = ((payR 2 cd wd k P xs).1 && decide ((payR 2 cd wd k P xs).2.length = k)) ∧
    (((payR 2 cd wd k P xs).1 && decide ((payR 2 cd wd k P xs).2.length = k)) = true → ∀ j, j < k → (payR 2 cd wd k P xs).2.getD j dfP =
      pK_S (vl_S cd wd (outPay_S cd wd k (xs.drop P) false).list (outPay_S cd wd k (xs.drop P) false).ends 0 (outPay_S cd wd k (xs.drop P) false).lanes j)) := by
  by_cases h1 : cd = 1
  · subst h1
    obtain ⟨m1, m2⟩ := plain_meet_S wd k P xs hP
    have e1 : payR 2 1 wd k P xs = (listOk 2 k P xs && decide (listNx 2 k P xs = xs.length) && decide (1 = 1) && decide (wd = 0), listP 2 k P xs) := by unfold payR; simp
    have e2 : outPay_S 1 wd k (xs.drop P) false = outPlain_S wd k (xs.drop P) false := by unfold outPay_S; simp
    have hll := fun ho => listP_len 2 k P xs ho (.inr rfl)
    rw [e1, e2, m1]
    refine ⟨?_, fun h j hj => ?_⟩
    · cases ho : listOk 2 k P xs
      · simp [isCodec, isKind]
      · simp [isCodec, isKind, hll ho]
    · simp only [Bool.and_eq_true, decide_eq_true_eq] at h
      have ho := h.1.1.1.1
      have hm := m2 ho
      have hl := hll ho
      rw [show listP kN_S k P xs = listP 2 k P xs from rfl] at hm
      unfold vl_S val_S
      rw [if_pos rfl, ← hm, map_getD pK_S _ j dfS dfP]
      rw [← hm, List.length_map] at hl
      omega
  by_cases h2 : cd = 2
  · subst h2
    obtain ⟨m1, m2⟩ := dict_meet_S wd k P xs hP hk
    have e1 : payR 2 2 wd k P xs = dictR 2 wd k P xs := by unfold payR; simp
    have e2 : outPay_S 2 wd k (xs.drop P) false = outDict_S wd k (xs.drop P) false := by unfold outPay_S; simp
    rw [e1, e2, m1]
    refine ⟨by simp [isCodec, isKind], fun h j hj => ?_⟩
    rw [Bool.and_eq_true] at h
    rw [show dictR 2 wd k P xs = dictR kN_S wd k P xs from rfl, m2 h.1 j hj]
    unfold vl_S val_S
    rw [if_neg (by decide), if_pos rfl]
  by_cases h3 : cd = 3
  · subst h3
    obtain ⟨m1, m2⟩ := runs_meet_S wd k P xs hP hk
    have e1 : payR 2 3 wd k P xs = ((runsR 2 k P xs).1 && decide (wd = 0), (runsR 2 k P xs).2) := by unfold payR; simp
    have e2 : outPay_S 3 wd k (xs.drop P) false = outRuns_S wd k (xs.drop P) false := by unfold outPay_S; simp
    rw [e1, e2, m1]
    refine ⟨by simp [isCodec, isKind], fun h j hj => ?_⟩
    simp only [Bool.and_eq_true] at h
    simp only
    rw [show runsR 2 k P xs = runsR kN_S k P xs from rfl, m2 h.1.1 h.1.2 j hj]
    unfold vl_S val_S
    rw [if_neg (by decide), if_neg (by decide)]
  have e2 : isCodec 2 cd = false := by
    unfold isCodec; rw [if_neg (by omega)]; exact decide_eq_false (by omega)
  have e1 : (payR 2 cd wd k P xs).1 = false := by
    unfold payR; rw [if_neg h2, if_neg h3]
    by_cases h4 : cd = 4
    · rw [if_pos h4, if_pos (.inr (.inr (by decide)))]
    · rw [if_neg h4]
      by_cases h5 : cd = 5
      · rw [if_pos h5, if_pos (.inr (by decide))]
      · rw [if_neg h5]; simp [h1]
  rw [e1, e2, Bool.false_and, Bool.false_and]
  exact ⟨rfl, fun h => by cases h⟩
theorem pay_short_S (cd wd k : Nat) (X : List Nat) : good_S (outPay_S cd wd k X true) = false := by
  unfold outPay_S
  split
  · unfold good_S outPlain_S
    simp only [rd_no_S, Bool.false_and]
  split
  · unfold outDict_S
    rw [tkS_true]
    split
    · rfl
    · have hno := rd_no_S (L.wordOf 8 (tk 4 X)) (tkL 4 X)
      generalize rdS (L.wordOf 8 (tk 4 X)) (tkL 4 X) true = q at *
      obtain ⟨vals, ok, xl, s1⟩ := q
      simp only at hno ⊢
      subst hno
      rfl
  · unfold outRuns_S
    rw [tkS_true, tkS_true]
    split
    · rfl
    · have hno := rd_no_S (L.wordOf 8 (tk 4 X)) (tkL (4 * L.wordOf 8 (tk 4 X)) (tkL 4 X))
      generalize rdS (L.wordOf 8 (tk 4 X)) (tkL (4 * L.wordOf 8 (tk 4 X)) (tkL 4 X)) true = q at *
      obtain ⟨vals, ok, xl, s1⟩ := q
      simp only at hno ⊢
      subst hno
      rfl
theorem rank_at (ws : List Nat) (r : Nat) (h : bitOf ws r = false) : rankN ws (r + 1) = rankN ws r := by rw [rankN_succ, h]; simp
theorem meet_I (rows : Nat) (xs : List Nat) (hrr : rows ≤ 65536) : lkOk_I rows xs = rOk 1 rows xs ∧
    (rOk 1 rows xs = true → ∀ r, r < rows → cellA_I rows xs r = cA (rWs rows xs) r ∧ cellB_I rows xs r = cB (rWs rows xs) (rPay 1 rows xs).2 r ∧ cellC_I rows xs r = cC (rWs rows xs) (rPay 1 rows xs).2 r) := by
  cases hn : numsOk 8 (rN rows) 2 xs.length
  · have e1 : rOk 1 rows xs = false := by unfold rOk rHd; rw [hn]; simp
    rw [e1]
    refine ⟨?_, fun h => by cases h⟩
    unfold lkOk_I lkOut_I
    rw [head_no rows xs hn]
    have := pay_short_I (headOf rows xs).codec (headOf rows xs).wd (cntOf rows (headOf rows xs).nulls) (headOf rows xs).left
    unfold good_I at this
    rw [this, Bool.and_false]
  · obtain ⟨a1, a2, a3, a4, a5⟩ := head_eq rows xs hn
    have hP : 2 + 8 * rN rows ≤ xs.length := by unfold numsOk at hn; rw [decide_eq_true_eq] at hn; omega
    have hkk : cntOf rows (rWs rows xs) = rK rows xs := rfl
    have hkl : rK rows xs ≤ 65536 := by unfold rK; omega
    obtain ⟨m1, m2⟩ := payall_meet_I (xs.getD 0 0) (xs.getD 1 0) (rK rows xs) (2 + 8 * rN rows) xs hP hkl
    have e0 : lkOut_I rows xs = outPay_I (xs.getD 0 0) (xs.getD 1 0) (rK rows xs) (xs.drop (2 + 8 * rN rows)) false := by
      unfold lkOut_I; rw [a1, a2, a3, a4, a5, hkk]
    have e1 : lkOk_I rows xs = (okPack 1 rows (rWs rows xs) && (isCodec 1 (xs.getD 0 0) && good_I (outPay_I (xs.getD 0 0) (xs.getD 1 0) (rK rows xs) (xs.drop (2 + 8 * rN rows)) false))) := by
      unfold lkOk_I headOk good_I; rw [e0, a1, a3, Bool.and_assoc]; rfl
    have e2 : rOk 1 rows xs = (okPack 1 rows (rWs rows xs) && ((rPay 1 rows xs).1 && decide ((rPay 1 rows xs).2.length = rK rows xs))) := by
      unfold rOk rHd; rw [hn, Bool.true_and, Bool.and_assoc]
    refine ⟨by rw [e1, e2, m1]; rfl, fun h r hr => ?_⟩
    rw [e2, Bool.and_eq_true] at h
    have hva := m2 h.2
    unfold cellA_I cellB_I cellC_I cA cB cC
    rw [a3]
    refine ⟨rfl, ?_, ?_⟩
    all_goals
      cases hb : bitOf (rWs rows xs) r
      · simp only [Bool.false_eq_true, if_false]
        rw [rank_at _ _ hb]
        have hj : r - rankN (rWs rows xs) r < rK rows xs := by
          have := rank_mono (rWs rows xs) (r + 1) rows (by omega)
          have h2 := rankN_le (rWs rows xs) r
          rw [rank_at _ _ hb] at this
          unfold rK; omega
        have := hva _ hj
        unfold rPay
        rw [this]
        unfold vAt_I lkBase_I
        rw [e0, a1, a2, a4]
        rfl
      · simp
theorem meet_S (rows : Nat) (xs : List Nat) (hrr : rows ≤ 65536) : lkOk_S rows xs = rOk 2 rows xs ∧
    (rOk 2 rows xs = true → ∀ r, r < rows → cellA_S rows xs r = cA (rWs rows xs) r ∧ cellB_S rows xs r = cB (rWs rows xs) (rPay 2 rows xs).2 r ∧ cellC_S rows xs r = cC (rWs rows xs) (rPay 2 rows xs).2 r) := by
  cases hn : numsOk 8 (rN rows) 2 xs.length
  · have e1 : rOk 2 rows xs = false := by unfold rOk rHd; rw [hn]; simp
    rw [e1]
    refine ⟨?_, fun h => by cases h⟩
    unfold lkOk_S lkOut_S
    rw [head_no rows xs hn]
    have := pay_short_S (headOf rows xs).codec (headOf rows xs).wd (cntOf rows (headOf rows xs).nulls) (headOf rows xs).left
    unfold good_S at this
    rw [this, Bool.and_false]
  · obtain ⟨a1, a2, a3, a4, a5⟩ := head_eq rows xs hn
    have hP : 2 + 8 * rN rows ≤ xs.length := by unfold numsOk at hn; rw [decide_eq_true_eq] at hn; omega
    have hkk : cntOf rows (rWs rows xs) = rK rows xs := rfl
    have hkl : rK rows xs ≤ 65536 := by unfold rK; omega
    obtain ⟨m1, m2⟩ := payall_meet_S (xs.getD 0 0) (xs.getD 1 0) (rK rows xs) (2 + 8 * rN rows) xs hP hkl
    have e0 : lkOut_S rows xs = outPay_S (xs.getD 0 0) (xs.getD 1 0) (rK rows xs) (xs.drop (2 + 8 * rN rows)) false := by
      unfold lkOut_S; rw [a1, a2, a3, a4, a5, hkk]
    have e1 : lkOk_S rows xs = (okPack 1 rows (rWs rows xs) && (isCodec 2 (xs.getD 0 0) && good_S (outPay_S (xs.getD 0 0) (xs.getD 1 0) (rK rows xs) (xs.drop (2 + 8 * rN rows)) false))) := by
      unfold lkOk_S headOk good_S; rw [e0, a1, a3, Bool.and_assoc]; rfl
    have e2 : rOk 2 rows xs = (okPack 1 rows (rWs rows xs) && ((rPay 2 rows xs).1 && decide ((rPay 2 rows xs).2.length = rK rows xs))) := by
      unfold rOk rHd; rw [hn, Bool.true_and, Bool.and_assoc]
    refine ⟨by rw [e1, e2, m1]; rfl, fun h r hr => ?_⟩
    rw [e2, Bool.and_eq_true] at h
    have hva := m2 h.2
    unfold cellA_S cellB_S cellC_S cA cB cC
    rw [a3]
    refine ⟨rfl, ?_, ?_⟩
    all_goals
      cases hb : bitOf (rWs rows xs) r
      · simp only [Bool.false_eq_true, if_false]
        rw [rank_at _ _ hb]
        have hj : r - rankN (rWs rows xs) r < rK rows xs := by
          have := rank_mono (rWs rows xs) (r + 1) rows (by omega)
          have h2 := rankN_le (rWs rows xs) r
          rw [rank_at _ _ hb] at this
          unfold rK; omega
        have := hva _ hj
        unfold rPay
        rw [this]
        unfold vAt_S lkBase_S
        rw [e0, a1, a2]
        rfl
      · simp
theorem cellsUp_ext {A A' : Nat → Bool} {B B' : Nat → Int} {C C' : Nat → ByteArray} (n : Nat) (h : ∀ r, r < n → A r = A' r ∧ B r = B' r ∧ C r = C' r) : cellsUp A B C n = cellsUp A' B' C' n := by
  induction n with
  | zero => rfl
  | succ n ih =>
    rw [cellsUp, cellsUp, ih (fun r hr => h r (by omega))]
    obtain ⟨h1, h2, h3⟩ := h n (by omega)
    rw [h1, h2, h3]
/-- Decode and Gather of the code and of the document answer alike -/
theorem dec_meet (k rows : Int) (xs : List Nat) : decCode k rows xs = refCode k rows xs ∧ decCells k rows xs = refCells k rows xs ∧ decLen k rows xs = refLen k rows xs := by
  have hcode : decCode k rows xs = refCode k rows xs := by
    unfold decCode refCode
    by_cases hg : (isKind k && isRows rows) = true
    · rw [if_pos hg, if_pos hg]
      simp only [Bool.and_eq_true] at hg
      have hr2 : 0 ≤ rows ∧ rows ≤ 65536 := by simpa [isRows] using hg.2
      have hk : k = 1 ∨ k = 2 := by simpa [isKind] using hg.1
      rcases hk with rfl | rfl
      · rw [if_neg (by decide), (meet_I rows.toNat xs (by omega)).1]; rfl
      · rw [if_pos rfl, (meet_S rows.toNat xs (by omega)).1]; rfl
    · rw [if_neg hg, if_neg hg]
  refine ⟨hcode, ?_, ?_⟩
  · unfold decCells refCells
    rw [hcode]
    by_cases h0 : refCode k rows xs = 0
    · rw [if_pos h0, if_pos h0]
      unfold refCode at h0
      split at h0
      · rename_i hg
        simp only [Bool.and_eq_true] at hg
        have hr2 : 0 ≤ rows ∧ rows ≤ 65536 := by simpa [isRows] using hg.2
        have hk : k = 1 ∨ k = 2 := by simpa [isKind] using hg.1
        have hok : rOk k.toNat rows.toNat xs = true := by
          split at h0
          · assumption
          · cases h0
        rcases hk with rfl | rfl
        · rw [if_neg (by decide)]
          exact cellsUp_ext _ ((meet_I rows.toNat xs (by omega)).2 hok)
        · rw [if_pos rfl]
          exact cellsUp_ext _ ((meet_S rows.toNat xs (by omega)).2 hok)
      · cases h0
    · rw [if_neg h0, if_neg h0]
  · unfold decLen refLen; rw [hcode]
theorem gat_meet (k rows : Int) (xs : List Nat) (ps : List Int) : gatCode k rows xs ps = rgCode k rows xs ps ∧ gatCells k rows xs ps = rgCells k rows xs ps ∧ gatLen k rows xs ps = rgLen k rows xs ps := by
  have hcode : gatCode k rows xs ps = rgCode k rows xs ps := by
    unfold gatCode rgCode
    by_cases hg : (isKind k && isRows rows && arePl ps rows) = true
    · rw [if_pos hg, if_pos hg]
      simp only [Bool.and_eq_true] at hg
      have hr2 : 0 ≤ rows ∧ rows ≤ 65536 := by simpa [isRows] using hg.1.2
      have hk : k = 1 ∨ k = 2 := by simpa [isKind] using hg.1.1
      rcases hk with rfl | rfl
      · rw [if_neg (by decide), (meet_I rows.toNat xs (by omega)).1]; rfl
      · rw [if_pos rfl, (meet_S rows.toNat xs (by omega)).1]; rfl
    · rw [if_neg hg, if_neg hg]
  refine ⟨hcode, ?_, ?_⟩
  · unfold gatCells rgCells
    rw [hcode]
    by_cases h0 : rgCode k rows xs ps = 0
    · rw [if_pos h0, if_pos h0]
      unfold rgCode at h0
      split at h0
      · rename_i hg
        simp only [Bool.and_eq_true] at hg
        have hr2 : 0 ≤ rows ∧ rows ≤ 65536 := by simpa [isRows] using hg.1.2
        have hk : k = 1 ∨ k = 2 := by simpa [isKind] using hg.1.1
        have hps := hg.2
        unfold arePl at hps
        simp only [Bool.and_eq_true, decide_eq_true_eq, List.all_eq_true] at hps
        have hin : ∀ i, i < ps.length → (ps.getD i 0).toNat < rows.toNat := fun i hi => by
          have := hps.2 (ps.getD i 0) (by simp [List.getD, List.getElem?_eq_getElem hi])
          omega
        have hok : rOk k.toNat rows.toNat xs = true := by
          split at h0
          · assumption
          · cases h0
        rcases hk with rfl | rfl
        · rw [if_neg (by decide)]
          exact cellsUp_ext _ (fun i hi => (meet_I rows.toNat xs (by omega)).2 hok _ (hin i hi))
        · rw [if_pos rfl]
          exact cellsUp_ext _ (fun i hi => (meet_S rows.toNat xs (by omega)).2 hok _ (hin i hi))
      · cases h0
    · rw [if_neg h0, if_neg h0]
  · unfold gatLen rgLen; rw [hcode]
end Go.Proofs.YtdlkdiaobbakiaaGreatDoor
