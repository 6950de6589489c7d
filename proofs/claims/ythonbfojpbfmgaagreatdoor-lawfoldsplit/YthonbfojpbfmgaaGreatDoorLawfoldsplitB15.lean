/- The code's answer and the plain answer meet: whole bodies. -/
import Derived.Test.YthonbfojpbfmgaaGreatDoorLawfoldsplitB14
import Derived.Test.YthonbfojpbfmgaaGreatDoorLawfoldsplitB1
import Derived.Deep.QuietTactic
import Derived.Test.YthonbfojpbfmgaaGreatDoorLawfoldsplitB4
import Derived.Lib.ConvBytes
set_option linter.unusedVariables false
set_option linter.unusedSimpArgs false
set_option linter.unnecessarySimpa false
set_option maxRecDepth 20000
namespace Go.Proofs.YthonbfojpbfmgaaGreatDoor
open Go.RowKit

theorem payall_meet_I (cd wd k P : Nat) (xs : List Nat) (hP : P ≤ xs.length) (hk : k ≤ 65536) :
    (isCodec 1 cd && good_I (outPay_I cd wd k (xs.drop P) false)) = ((payR 1 cd wd k P xs).1 && decide ((payR 1 cd wd k P xs).2.length = k)) ∧
    (((payR 1 cd wd k P xs).1 && decide ((payR 1 cd wd k P xs).2.length = k)) = true → ∀ j, j < k → (payR 1 cd wd k P xs).2.getD j dfP =
      pK_I (vl_I cd wd (outPay_I cd wd k (xs.drop P) false).list (outPay_I cd wd k (xs.drop P) false).ends (basePay cd (xs.drop P)) (outPay_I cd wd k (xs.drop P) false).lanes j)) := by
  by_cases h1 : cd = 1
  · subst h1
    obtain ⟨m1, m2⟩ := plain_meet_I wd k P xs hP
    have e1 : payR 1 1 wd k P xs = (listOk 1 k P xs && decide (listNx 1 k P xs = xs.length) && decide (1 = 1) && decide (wd = 0), listP 1 k P xs) := by unfold payR; simp
    have e2 : outPay_I 1 wd k (xs.drop P) false = outPlain_I wd k (xs.drop P) false := by unfold outPay_I; simp
    have hll := fun ho => listP_len 1 k P xs ho (.inl rfl)
    rw [e1, e2, m1]
    refine ⟨?_, fun h j hj => ?_⟩
    · cases ho : listOk 1 k P xs
      · simp [isCodec, isKind]
      · simp [isCodec, isKind, hll ho]
    · simp only [Bool.and_eq_true, decide_eq_true_eq] at h
      have ho := h.1.1.1.1
      have hm := m2 ho
      have hl := hll ho
      rw [show listP kN_I k P xs = listP 1 k P xs from rfl] at hm
      unfold vl_I val_I
      rw [if_neg (by decide), if_pos rfl, ← hm, map_getD pK_I _ j dfI dfP]
      rw [← hm, List.length_map] at hl
      omega
  by_cases h2 : cd = 2
  · subst h2
    obtain ⟨m1, m2⟩ := dict_meet_I wd k P xs hP hk
    have e1 : payR 1 2 wd k P xs = dictR 1 wd k P xs := by unfold payR; simp
    have e2 : outPay_I 2 wd k (xs.drop P) false = outDict_I wd k (xs.drop P) false := by unfold outPay_I; simp
    rw [e1, e2, m1]
    refine ⟨by simp [isCodec, isKind], fun h j hj => ?_⟩
    rw [Bool.and_eq_true] at h
    rw [show dictR 1 wd k P xs = dictR kN_I wd k P xs from rfl, m2 h.1 j hj]
    unfold vl_I val_I
    rw [if_neg (by decide), if_neg (by decide), if_pos rfl]
  by_cases h3 : cd = 3
  · subst h3
    obtain ⟨m1, m2⟩ := runs_meet_I wd k P xs hP hk
    have e1 : payR 1 3 wd k P xs = ((runsR 1 k P xs).1 && decide (wd = 0), (runsR 1 k P xs).2) := by unfold payR; simp
    have e2 : outPay_I 3 wd k (xs.drop P) false = outRuns_I wd k (xs.drop P) false := by unfold outPay_I; simp
    rw [e1, e2, m1]
    refine ⟨by simp [isCodec, isKind], fun h j hj => ?_⟩
    simp only [Bool.and_eq_true] at h
    simp only
    rw [show runsR 1 k P xs = runsR kN_I k P xs from rfl, m2 h.1.1 h.1.2 j hj]
    unfold vl_I val_I
    rw [if_neg (by decide), if_neg (by decide), if_neg (by decide)]
  by_cases h4 : cd = 4
  · subst h4
    have e2 : outPay_I 4 wd k (xs.drop P) false = outOff wd (basePay 4 (xs.drop P)) k (tkL 8 (xs.drop P)) (tkS 8 (xs.drop P) false) := by unfold outPay_I; simp
    have e1 : payR 1 4 wd k P xs = (if numOk 8 P xs.length = false ∨ 64 < wd ∨ ¬ (1 : Nat) = 1 then (false, []) else
        (fits (sgn64 (L.wordOf 8 ((xs.drop P).take 8))) (lanesV wd k (P + 8) xs) && lanesOk wd k (P + 8) xs, (sumsL (sgn64 (L.wordOf 8 ((xs.drop P).take 8))) (lanesV wd k (P + 8) xs)).map pI)) := by unfold payR; simp
    rw [e1, e2]
    by_cases h8 : 8 ≤ xs.length - P
    rotate_left
    · rw [if_pos (.inl (by unfold numOk; exact decide_eq_false (by omega)))]
      have e4 : tkS 8 (xs.drop P) false = true := by unfold tkS; rw [dl, if_neg h8]
      rw [e4, off_short, Bool.and_false]
      exact ⟨rfl, fun h => by cases h⟩
    have hno : numOk 8 P xs.length = true := by unfold numOk; exact decide_eq_true ⟨hP, h8⟩
    have e3 : basePay 4 (xs.drop P) = sgn64 (L.wordOf 8 ((xs.drop P).take 8)) := by unfold basePay tk; rw [if_pos rfl, dl, if_pos h8]
    have e4 : tkS 8 (xs.drop P) false = false := by unfold tkS; rw [dl, if_pos h8]
    have e5 : tkL 8 (xs.drop P) = xs.drop (P + 8) := by unfold tkL; rw [dl, if_pos h8, List.drop_drop]
    by_cases hw : 64 < wd
    · rw [if_pos (.inr (.inl hw)), off_wide _ _ _ _ hw, Bool.and_false]
      exact ⟨rfl, fun h => by cases h⟩
    rw [if_neg (fun h => h.elim (fun h => by rw [hno] at h; cases h) (fun h => h.elim hw (fun h => h rfl))), e3, e4, e5]
    obtain ⟨m1, m2⟩ := off_meet wd k (P + 8) (sgn64 (L.wordOf 8 ((xs.drop P).take 8))) xs (by omega) hk
    rw [m1]
    refine ⟨by simp [isCodec], fun h j hj => ?_⟩
    rw [Bool.and_eq_true] at h
    simp only
    rw [m2 h.1 j hj]
    unfold vl_I
    rw [if_pos (.inl rfl)]
    rfl
  by_cases h5 : cd = 5
  · subst h5
    have e2 : outPay_I 5 wd k (xs.drop P) false = outOff wd 0 k (xs.drop P) false := by unfold outPay_I; simp
    have e1 : payR 1 5 wd k P xs = (if 64 < wd ∨ ¬ (1 : Nat) = 1 then (false, []) else (fits 0 (lanesV wd k P xs) && lanesOk wd k P xs, (sumsL 0 (lanesV wd k P xs)).map pI)) := by unfold payR; simp
    rw [e1, e2]
    have e3 : basePay 5 (xs.drop P) = 0 := by unfold basePay; rw [if_neg (by decide)]
    by_cases hw : 64 < wd
    · rw [if_pos (.inl hw), off_wide _ _ _ _ hw, Bool.and_false]
      exact ⟨rfl, fun h => by cases h⟩
    rw [if_neg (by omega), e3]
    obtain ⟨m1, m2⟩ := off_meet wd k P 0 xs hP hk
    rw [m1]
    refine ⟨by simp [isCodec], fun h j hj => ?_⟩
    rw [Bool.and_eq_true] at h
    simp only
    rw [m2 h.1 j hj]
    unfold vl_I
    rw [if_pos (.inr rfl)]
    rfl
  have e1 : (payR 1 cd wd k P xs).1 = false := by
    unfold payR; rw [if_neg h2, if_neg h3, if_neg h4, if_neg h5]
    simp [h1]
  have e2 : isCodec 1 cd = false := by
    unfold isCodec; rw [if_neg (by omega)]; exact decide_eq_false (by omega)
  rw [e1, e2, Bool.false_and, Bool.false_and]
  exact ⟨rfl, fun h => by cases h⟩
theorem payall_meet_S (cd wd k P : Nat) (xs : List Nat) (hP : P ≤ xs.length) (hk : k ≤ 65536) :
    (isCodec 2 cd && good_S (outPay_S cd wd k (xs.drop P) false)) = ((payR 2 cd wd k P xs).1 && decide ((payR 2 cd wd k P xs).2.length = k)) ∧
    (((payR 2 cd wd k P xs).1 && decide ((payR 2 cd wd k P xs).2.length = k)) = true → ∀ j, j < k → (payR 2 cd wd k P xs).2.getD j dfP =
      pK_S (vl_S cd wd (outPay_S cd wd k (xs.drop P) false).list (outPay_S cd wd k (xs.drop P) false).ends 0 (outPay_S cd wd k (xs.drop P) false).lanes j)) := by
  by_cases h1 : cd = 1
  · subst h1
    obtain ⟨m1, m2⟩ := plain_meet_S wd k P xs hP
    have e1 : payR 2 1 wd k P xs = (listOk 2 k P xs && decide (listNx 2 k P xs = xs.length) && decide (1 = 1) && decide (wd = 0), listP 2 k P xs) := by unfold payR; simp
    have e2 : outPay_S 1 wd k (xs.drop P) false = outPlain_S wd k (xs.drop P) false := by unfold outPay_S; simp
    have hll := fun ho => listP_len 2 k P xs ho (.inr rfl)
    rw [e1, e2, m1]
    refine ⟨?_, fun h j hj => ?_⟩
    · cases ho : listOk 2 k P xs
      · simp [isCodec, isKind]
      · simp [isCodec, isKind, hll ho]
    · simp only [Bool.and_eq_true, decide_eq_true_eq] at h
      have ho := h.1.1.1.1
      have hm := m2 ho
      have hl := hll ho
      rw [show listP kN_S k P xs = listP 2 k P xs from rfl] at hm
      unfold vl_S val_S
      rw [if_pos rfl, ← hm, map_getD pK_S _ j dfS dfP]
      rw [← hm, List.length_map] at hl
      omega
  by_cases h2 : cd = 2
  · subst h2
    obtain ⟨m1, m2⟩ := dict_meet_S wd k P xs hP hk
    have e1 : payR 2 2 wd k P xs = dictR 2 wd k P xs := by unfold payR; simp
    have e2 : outPay_S 2 wd k (xs.drop P) false = outDict_S wd k (xs.drop P) false := by unfold outPay_S; simp
    rw [e1, e2, m1]
    refine ⟨by simp [isCodec, isKind], fun h j hj => ?_⟩
    rw [Bool.and_eq_true] at h
    rw [show dictR 2 wd k P xs = dictR kN_S wd k P xs from rfl, m2 h.1 j hj]
    unfold vl_S val_S
    rw [if_neg (by decide), if_pos rfl]
  by_cases h3 : cd = 3
  · subst h3
    obtain ⟨m1, m2⟩ := runs_meet_S wd k P xs hP hk
    have e1 : payR 2 3 wd k P xs = ((runsR 2 k P xs).1 && decide (wd = 0), (runsR 2 k P xs).2) := by unfold payR; simp
    have e2 : outPay_S 3 wd k (xs.drop P) false = outRuns_S wd k (xs.drop P) false := by unfold outPay_S; simp
    rw [e1, e2, m1]
    refine ⟨by simp [isCodec, isKind], fun h j hj => ?_⟩
    simp only [Bool.and_eq_true] at h
    simp only
    rw [show runsR 2 k P xs = runsR kN_S k P xs from rfl, m2 h.1.1 h.1.2 j hj]
    unfold vl_S val_S
    rw [if_neg (by decide), if_neg (by decide)]
  have e2 : isCodec 2 cd = false := by
    unfold isCodec; rw [if_neg (by omega)]; exact decide_eq_false (by omega)
  have e1 : (payR 2 cd wd k P xs).1 = false := by
    unfold payR; rw [if_neg h2, if_neg h3]
    by_cases h4 : cd = 4
    · rw [if_pos h4, if_pos (.inr (.inr (by decide)))]
    · rw [if_neg h4]
      by_cases h5 : cd = 5
      · rw [if_pos h5, if_pos (.inr (by decide))]
      · rw [if_neg h5]; simp [h1]
  rw [e1, e2, Bool.false_and, Bool.false_and]
  exact ⟨rfl, fun h => by cases h⟩
theorem pay_short_S (cd wd k : Nat) (X : List Nat) : good_S (outPay_S cd wd k X true) = false := by
  unfold outPay_S
  split
  · unfold good_S outPlain_S
    simp only [rd_no_S, Bool.false_and]
  split
  · unfold outDict_S
    rw [tkS_true]
    split
    · rfl
    · have hno := rd_no_S (L.wordOf 8 (tk 4 X)) (tkL 4 X)
      generalize rdS (L.wordOf 8 (tk 4 X)) (tkL 4 X) true = q at *
      obtain ⟨vals, ok, xl, s1⟩ := q
      simp only at hno ⊢
      subst hno
      rfl
  · unfold outRuns_S
    rw [tkS_true, tkS_true]
    split
    · rfl
    · have hno := rd_no_S (L.wordOf 8 (tk 4 X)) (tkL (4 * L.wordOf 8 (tk 4 X)) (tkL 4 X))
      generalize rdS (L.wordOf 8 (tk 4 X)) (tkL (4 * L.wordOf 8 (tk 4 X)) (tkL 4 X)) true = q at *
      obtain ⟨vals, ok, xl, s1⟩ := q
      simp only at hno ⊢
      subst hno
      rfl
theorem rank_at (ws : List Nat) (r : Nat) (h : bitOf ws r = false) : rankN ws (r + 1) = rankN ws r := by rw [rankN_succ, h]; simp
theorem meet_I (rows : Nat) (xs : List Nat) (hrr : rows ≤ 65536) : lkOk_I rows xs = rOk 1 rows xs ∧
    (rOk 1 rows xs = true → ∀ r, r < rows → cellA_I rows xs r = cA (rWs rows xs) r ∧ cellB_I rows xs r = cB (rWs rows xs) (rPay 1 rows xs).2 r ∧ cellC_I rows xs r = cC (rWs rows xs) (rPay 1 rows xs).2 r) := by
  cases hn : numsOk 8 (rN rows) 2 xs.length
  · have e1 : rOk 1 rows xs = false := by unfold rOk rHd; rw [hn]; simp
    rw [e1]
    refine ⟨?_, fun h => by cases h⟩
    unfold lkOk_I lkOut_I
    rw [head_no rows xs hn]
    have := pay_short_I (headOf rows xs).codec (headOf rows xs).wd (cntOf rows (headOf rows xs).nulls) (headOf rows xs).left
    unfold good_I at this
    rw [this, Bool.and_false]
  · obtain ⟨a1, a2, a3, a4, a5⟩ := head_eq rows xs hn
    have hP : 2 + 8 * rN rows ≤ xs.length := by unfold numsOk at hn; rw [decide_eq_true_eq] at hn; omega
    have hkk : cntOf rows (rWs rows xs) = rK rows xs := rfl
    have hkl : rK rows xs ≤ 65536 := by unfold rK; omega
    obtain ⟨m1, m2⟩ := payall_meet_I (xs.getD 0 0) (xs.getD 1 0) (rK rows xs) (2 + 8 * rN rows) xs hP hkl
    have e0 : lkOut_I rows xs = outPay_I (xs.getD 0 0) (xs.getD 1 0) (rK rows xs) (xs.drop (2 + 8 * rN rows)) false := by
      unfold lkOut_I; rw [a1, a2, a3, a4, a5, hkk]
    have e1 : lkOk_I rows xs = (okPack 1 rows (rWs rows xs) && (isCodec 1 (xs.getD 0 0) && good_I (outPay_I (xs.getD 0 0) (xs.getD 1 0) (rK rows xs) (xs.drop (2 + 8 * rN rows)) false))) := by
      unfold lkOk_I headOk good_I; rw [e0, a1, a3, Bool.and_assoc]; rfl
    have e2 : rOk 1 rows xs = (okPack 1 rows (rWs rows xs) && ((rPay 1 rows xs).1 && decide ((rPay 1 rows xs).2.length = rK rows xs))) := by
      unfold rOk rHd; rw [hn, Bool.true_and, Bool.and_assoc]
    refine ⟨by rw [e1, e2, m1]; rfl, fun h r hr => ?_⟩
    rw [e2, Bool.and_eq_true] at h
    have hva := m2 h.2
    unfold cellA_I cellB_I cellC_I cA cB cC
    rw [a3]
    refine ⟨rfl, ?_, ?_⟩
    all_goals
      cases hb : bitOf (rWs rows xs) r
      · simp only [Bool.false_eq_true, if_false]
        rw [rank_at _ _ hb]
        have hj : r - rankN (rWs rows xs) r < rK rows xs := by
          have := rank_mono (rWs rows xs) (r + 1) rows (by omega)
          have h2 := rankN_le (rWs rows xs) r
          rw [rank_at _ _ hb] at this
          unfold rK; omega
        have := hva _ hj
        unfold rPay
        rw [this]
        unfold vAt_I lkBase_I
        rw [e0, a1, a2, a4]
        rfl
      · simp
theorem meet_S (rows : Nat) (xs : List Nat) (hrr : rows ≤ 65536) : lkOk_S rows xs = rOk 2 rows xs ∧
    (rOk 2 rows xs = true → ∀ r, r < rows → cellA_S rows xs r = cA (rWs rows xs) r ∧ cellB_S rows xs r = cB (rWs rows xs) (rPay 2 rows xs).2 r ∧ cellC_S rows xs r = cC (rWs rows xs) (rPay 2 rows xs).2 r) := by
  cases hn : numsOk 8 (rN rows) 2 xs.length
  · have e1 : rOk 2 rows xs = false := by unfold rOk rHd; rw [hn]; simp
    rw [e1]
    refine ⟨?_, fun h => by cases h⟩
    unfold lkOk_S lkOut_S
    rw [head_no rows xs hn]
    have := pay_short_S (headOf rows xs).codec (headOf rows xs).wd (cntOf rows (headOf rows xs).nulls) (headOf rows xs).left
    unfold good_S at this
    rw [this, Bool.and_false]
  · obtain ⟨a1, a2, a3, a4, a5⟩ := head_eq rows xs hn
    have hP : 2 + 8 * rN rows ≤ xs.length := by unfold numsOk at hn; rw [decide_eq_true_eq] at hn; omega
    have hkk : cntOf rows (rWs rows xs) = rK rows xs := rfl
    have hkl : rK rows xs ≤ 65536 := by unfold rK; omega
    obtain ⟨m1, m2⟩ := payall_meet_S (xs.getD 0 0) (xs.getD 1 0) (rK rows xs) (2 + 8 * rN rows) xs hP hkl
    have e0 : lkOut_S rows xs = outPay_S (xs.getD 0 0) (xs.getD 1 0) (rK rows xs) (xs.drop (2 + 8 * rN rows)) false := by
      unfold lkOut_S; rw [a1, a2, a3, a4, a5, hkk]
    have e1 : lkOk_S rows xs = (okPack 1 rows (rWs rows xs) && (isCodec 2 (xs.getD 0 0) && good_S (outPay_S (xs.getD 0 0) (xs.getD 1 0) (rK rows xs) (xs.drop (2 + 8 * rN rows)) false))) := by
      unfold lkOk_S headOk good_S; rw [e0, a1, a3, Bool.and_assoc]; rfl
    have e2 : rOk 2 rows xs = (okPack 1 rows (rWs rows xs) && ((rPay 2 rows xs).1 && decide ((rPay 2 rows xs).2.length = rK rows xs))) := by
      unfold rOk rHd; rw [hn, Bool.true_and, Bool.and_assoc]
    refine ⟨by rw [e1, e2, m1]; rfl, fun h r hr => ?_⟩
    rw [e2, Bool.and_eq_true] at h
    have hva := m2 h.2
    unfold cellA_S cellB_S cellC_S cA cB cC
    rw [a3]
    refine ⟨rfl, ?_, ?_⟩
    all_goals
      cases hb : bitOf (rWs rows xs) r
      · simp only [Bool.false_eq_true, if_false]
        rw [rank_at _ _ hb]
        have hj : r - rankN (rWs rows xs) r < rK rows xs := by
          have := rank_mono (rWs rows xs) (r + 1) rows (by omega)
          have h2 := rankN_le (rWs rows xs) r
          rw [rank_at _ _ hb] at this
          unfold rK; omega
        have := hva _ hj
        unfold rPay
        rw [this]
        unfold vAt_S lkBase_S
        rw [e0, a1, a2]
        rfl
      · simp
end Go.Proofs.YthonbfojpbfmgaaGreatDoor

/- The laws' spoilWords: it writes into the list that it is given alone, and into memory of its own. -/
set_option linter.unusedVariables false
set_option linter.unusedSimpArgs false
set_option linter.unnecessarySimpa false
set_option maxRecDepth 20000
namespace Go.Proofs.YthonbfojpbfmgaaGreatDoor
open Go.RowKit

end Go.Proofs.YthonbfojpbfmgaaGreatDoor

/- Lists that share no memory: where append leaves its answer; the law's own test of it, over lists of words. -/
set_option linter.unusedVariables false
set_option linter.unusedSimpArgs false
set_option linter.unnecessarySimpa false
set_option maxRecDepth 20000
namespace Go.Proofs.YthonbfojpbfmgaaGreatDoor
open Go.RowKit

/-- where append leaves its answer: in the row that it had, or in a new one, and then the old rows stand -/
theorem append_where {P : Program} {w : World} (base : Nat) (t ty e : TypeId) (i : TypeInfo) (z : Value) (size bytes : Nat) (ht : P.underlying t = some (.slice e)) (hi : P.info? e = some i) (hz : i.zero = some z)
    (hsize : i.size = size) (hby : i.bytes = bytes) (hzs : z.cells.size = size) (hsz : 0 < size)
    (v : Value) (n : Nat) (xs : List Value) (hown : w.ownsRow base e size v n xs)
    (a : Addr) (m c : Nat) (news : List Value) (hl : news.length = m * size) (hnews : ∀ j u, news[j]? = some u → w.cell? (a.add j) = some u) (h1 : ∀ u ∈ news, u.oneCell' = true)
    (h63 : n + m ≤ maxLen) (hbytes : (n + m) * bytes ≤ 140737488355328) (h0 : 0 < m) :
    ∃ v' w', (Builtin.append_ #[t, t] ty #[v, .slice (some a) m c]).run P w = .ok v' w' ∧ (v'.ownBlock = v.ownBlock ∨ (v'.ownBlock = some w.heap.size ∧ ∀ k, k < w.heap.size → w'.heap[k]? = w.heap[k]?)) := by
  subst hsize
  subst hby
  have hsmall : n + m ≤ 9223372036854775807 := by simp only [maxLen] at h63; omega
  rcases hown.2 with ⟨rfl, rfl⟩ | ⟨g, cap, cur, rfl, hbg, hg, hnc, hcm, hcs, htake⟩
  · have hr := run_append_nil (P := P) w t ty e i z ht hi hz a m c news hl hnews (by omega) (by omega) (by have hb := hbytes; simp only [Nat.zero_add] at hb; omega)
    exact ⟨_, _, hr, .inr ⟨rfl, fun k hk => heap_alloc_old w.drew _ hk⟩⟩
  · by_cases hroom : n + m ≤ cap
    · have hfit : n * i.size + news.length ≤ cur.size := by rw [hl, hcs, ← Nat.add_mul]; exact Nat.mul_le_mul_right _ hroom
      have hr := run_append_room (P := P) w t ty e i ht hi g n cap cur hg a m c news hl hnews h1 hroom hfit
      exact ⟨_, _, hr, .inl rfl⟩
    · have holds : ∀ j u, xs[j]? = some u → w.cell? ((⟨g, 0, none⟩ : Addr).add j) = some u := hown.cells (g := g) rfl
      have hr := run_append_grow (P := P) w t ty e i z ht hi hz ⟨g, 0, none⟩ n cap xs hown.1 holds a m c news hl hnews (by omega) (by omega) (growslice_fits (by omega) hbytes)
      exact ⟨_, _, hr, .inr ⟨rfl, fun k hk => heap_alloc_old w.drew _ hk⟩⟩
/-- append of one entry of one cell, and where the answer lies -/
theorem wpList_append1W {P : Program} {w : World} {ops : Array Oper} {rest : List Oper} {o : Oper} {a : Act} {Q : Exit → Act → World → Prop} {t : TypeId} {u v : Value} {B n : Nat} {xs : List Value}
    (hgd : o.guard = none) (s x : Operand) (ho : o.op = .call { callee := .builtin .append, args := #[s, x], argTypes := #[t, t] })
    (e : TypeId) (z : Value) (bytes : Nat) (h1 : P.underlying t = some (.slice e)) (h2 : (P.info? e).map (fun i => (i.zero, i.size, i.bytes)) = some (some z, 1, bytes)) (hz : z.cells = #[z])
    (hs : a.eval s = v) (hx : a.eval x = .slice (some ⟨w.heap.size, 0, none⟩) 1 1)
    (hown : w.ownsRow B e 1 v n xs) (hB : B ≤ w.heap.size) (hu : u.oneCell' = true) (hm : n + 1 ≤ maxLen) (hby : (n + 1) * bytes ≤ 140737488355328)
    (hK : ∀ v' w', w'.ownsRow B e 1 v' (n + 1) (xs ++ [u]) → Below B w w' → w.heap.size ≤ w'.heap.size → (∀ k, k < w.heap.size → some k ≠ v.ownBlock → w'.heap[k]? = w.heap[k]?) →
      (v'.ownBlock = v.ownBlock ∨ ((∀ k, v'.ownBlock = some k → w.heap.size ≤ k) ∧ ∀ k, k < w.heap.size → w'.heap[k]? = w.heap[k]?)) → wpList P ops Q rest (a.put o.dst v') w') :
    wpList P ops Q (o :: rest) a (w.alloc (.cells #[u] e)) := by
  refine wpList_plain hgd fun K hK' => ?_
  unfold Oper.wp execOp
  simp only [ho, resolve, invoke, builtin, Sem.run_bind, Sem.run_pure, Result.andThen_ok, List.map_toArray, List.map_cons, List.map_nil, hs, hx]
  obtain ⟨i, hi, hz0, hz1, hz2⟩ := info_parts h2
  have ha1 : ∀ x ∈ [u], x.oneCell' = true := by intro x hx; simp at hx; subst hx; exact hu
  obtain ⟨v', w', hr, h3, h4, _⟩ := run_append_own (P := P) (w := w.alloc (.cells #[u] e)) B t o.type e i z 1 bytes h1 hi hz0 hz1 hz2 (by rw [hz]; rfl) (by omega) v n xs (hown.alloc _)
    ⟨w.heap.size, 0, none⟩ 1 1 [u] rfl (cell_new w u e) ha1 hm hby (by simp; omega)
  obtain ⟨v2, w2, hr2, h5⟩ := append_where (P := P) (w := w.alloc (.cells #[u] e)) B t o.type e i z 1 bytes h1 hi hz0 hz1 hz2 (by rw [hz]; rfl) (by omega) v n xs (hown.alloc _)
    ⟨w.heap.size, 0, none⟩ 1 1 [u] rfl (cell_new w u e) ha1 hm hby (by omega)
  rw [hr] at hr2
  injection hr2 with e1 e2
  subst e1 e2
  have hlt := hown.lt
  refine upon_ok hr (hK' _ _ (hK _ _ h3 ?_ ?_ ?_ ?_))
  · refine (((Below.refl B w).alloc hB _).grown h4 (by simp; omega) ?_)
    intro k hk; exact (hlt k hk).1
  · have := h4.size; simp at this; omega
  · intro k hk hne
    rw [h4.block k (by simp; omega) hne]
    exact heap_alloc_old w _ hk
  · rcases h5 with h5 | ⟨h5, h6⟩
    · exact .inl h5
    · refine .inr ⟨fun k hk => ?_, fun k hk => ?_⟩
      · rw [h5] at hk; simp at hk; omega
      · rw [h6 k (by simp; omega)]; exact heap_alloc_old w _ hk
theorem Rd.keep {w w' : World} {v : Value} {n sz : Nat} {cs : List Value} (h : Rd w v n sz cs) (hk : ∀ k, v.ownBlock = some k → w'.heap[k]? = w.heap[k]?) : Rd w' v n sz cs := by
  refine ⟨h.1, ?_⟩
  rcases h.2 with h | ⟨b, o, cap, rfl, h1, h2, h3⟩
  · exact .inl h
  · refine .inr ⟨b, o, cap, rfl, h1, h2, ?_⟩
    intro i u hu
    rw [← h3 i u hu]
    exact World.cell?_of_block (hk b rfl)
theorem owns_keep {w w' : World} {B sz : Nat} {e : TypeId} {v : Value} {n : Nat} {cs : List Value} (h : w.ownsRow B e sz v n cs) (hk : ∀ k, v.ownBlock = some k → w'.heap[k]? = w.heap[k]?) : w'.ownsRow B e sz v n cs := by
  refine ⟨h.1, ?_⟩
  rcases h.2 with h | ⟨g, cap, cur, rfl, h1, h2, r⟩
  · exact .inl h
  · exact .inr ⟨g, cap, cur, rfl, h1, by rw [hk g rfl]; exact h2, r⟩
theorem Rd.at {w : World} {A : Option Addr} {n m sz cap : Nat} {cs : List Value} (h : Rd w (.slice A n cap) m sz cs) (h0 : 0 < m) : ∃ b o, A = some ⟨b, o, none⟩ ∧ Seg w b o cs := by
  rcases h.2 with ⟨_, rfl⟩ | ⟨b, o, cap', he, _, _, hs⟩
  · exact absurd h0 (Nat.lt_irrefl 0)
  · injection he with e1 e2 e3
    exact ⟨b, o, e1, hs⟩
def mk (i : Nat) : Value := .int .u64 ((18446744073709551615 - (501 + i) : Nat) : Int)
end Go.Proofs.YthonbfojpbfmgaaGreatDoor

/- Numbers put behind bytes, in the code and in the plain answer; cells by their three fields. -/
set_option linter.unusedVariables false
set_option linter.unusedSimpArgs false
set_option linter.unnecessarySimpa false
set_option maxRecDepth 100000
namespace Go.Proofs.YthonbfojpbfmgaaGreatDoor
open Go.RowKit

/-- a cell: is it NULL, its integer, its string -/
structure C3 where
  n : Bool
  i : Int
  s : ByteArray
def C3.vs (c : C3) : List Value := [.bool c.n, .int .i64 c.i, .string c.s]
def C3.v (c : C3) : Value := .agg #[.bool c.n, .int .i64 c.i, .string c.s]
def C3.df : C3 := ⟨false, 0, ByteArray.empty⟩
def cells3 (cs : List C3) : List Value := cs.flatMap C3.vs
theorem cells3_cons (c : C3) (cs : List C3) : cells3 (c :: cs) = c.vs ++ cells3 cs := by simp [cells3]
theorem cells3_snoc (cs : List C3) (c : C3) : cells3 (cs ++ [c]) = cells3 cs ++ [.bool c.n, .int .i64 c.i, .string c.s] := by simp [cells3, C3.vs]
theorem C3.vs_length (c : C3) : c.vs.length = 3 := rfl
theorem cells3_get (cs : List C3) : ∀ k, k < cs.length → (cells3 cs)[k * 3]? = some (.bool (cs.getD k C3.df).n) ∧ (cells3 cs)[k * 3 + 1]? = some (.int .i64 (cs.getD k C3.df).i) ∧ (cells3 cs)[k * 3 + 2]? = some (.string (cs.getD k C3.df).s) := by
  induction cs with
  | nil => intro k hk; simp at hk
  | cons c r ih =>
    intro k hk
    rw [cells3_cons]
    cases k with
    | zero => simp [C3.vs]
    | succ k =>
      obtain ⟨h1, h2, h3⟩ := ih k (by simpa using hk)
      rw [List.getElem?_append_right (by rw [C3.vs_length]; omega), List.getElem?_append_right (by rw [C3.vs_length]; omega), List.getElem?_append_right (by rw [C3.vs_length]; omega)]
      simp only [C3.vs_length, List.getD_cons_succ]
      rw [show (k + 1) * 3 - 3 = k * 3 by omega, show (k + 1) * 3 + 1 - 3 = k * 3 + 1 by omega, show (k + 1) * 3 + 2 - 3 = k * 3 + 2 by omega]
      exact ⟨h1, h2, h3⟩
theorem Seg.c3 {w : World} {b o : Nat} {cs : List C3} (h : Seg w b o (cells3 cs)) (k : Nat) (hk : k < cs.length) :
    w.cell? ⟨b, o + k * 3, none⟩ = some (.bool (cs.getD k C3.df).n) ∧ w.cell? ⟨b, o + k * 3 + 1, none⟩ = some (.int .i64 (cs.getD k C3.df).i) ∧ w.cell? ⟨b, o + k * 3 + 2, none⟩ = some (.string (cs.getD k C3.df).s) := by
  obtain ⟨g0, g1, g2⟩ := cells3_get cs k hk
  exact ⟨h _ _ g0, h _ _ g1, h _ _ g2⟩

/-- the lowest bytes of a number, the lowest first -/
def leN (k n : Nat) : List Nat := (List.range k).map fun i => n / 2 ^ (8 * i) % 256
theorem leN_length (k n : Nat) : (leN k n).length = k := by simp [leN]
theorem leN_succ (k n : Nat) : leN (k + 1) n = leN k n ++ [n / 2 ^ (8 * k) % 256] := by simp [leN, List.range_succ]
theorem leN_lt (k n : Nat) : ∀ x ∈ leN k n, x < 256 := by
  intro x hx; simp only [leN, List.mem_map] at hx; obtain ⟨i, _, rfl⟩ := hx; exact Nat.mod_lt _ (by decide)
def toU (i : Int) : Nat := (i % 18446744073709551616).toNat
theorem toU_lt (i : Int) : toU i < 18446744073709551616 := by unfold toU; omega
theorem wrap_toU (i : Int) : IntKind.u64.wrap i = (toU i : Int) := by rw [IntKind.wrap_u64]; unfold toU; omega
def sbs (s : ByteArray) : List Nat := s.data.toList.map UInt8.toNat
theorem sbs_length (s : ByteArray) : (sbs s).length = s.size := by rw [sbs, List.length_map, Array.length_toList]; rfl
theorem sbs_lt (s : ByteArray) : ∀ x ∈ sbs s, x < 256 := by
  intro x hx; obtain ⟨b, _, rfl⟩ := List.mem_map.1 hx; exact b.toNat_lt
theorem u8s_snoc (xs : List Nat) (n : Nat) : u8s (xs ++ [n]) = u8s xs ++ [.int .u8 (n : Int)] := by simp [u8s, u8]

/-- what lengthening a list v leaves: every old block but v's own stands, and the answer lies in v's own block or in a new one -/
def Kp (v : Value) (w w' : World) (r : Value) : Prop := (∀ k, k < w.heap.size → some k ≠ v.ownBlock → w'.heap[k]? = w.heap[k]?) ∧ (∀ k, r.ownBlock = some k → some k = v.ownBlock ∨ w.heap.size ≤ k)
theorem Kp.refl (v : Value) (w : World) : Kp v w w v := ⟨fun _ _ _ => rfl, fun k h => .inl h.symm⟩
theorem Kp.below {v : Value} {w w' : World} (h : Below w.heap.size w w') : Kp v w w' v := ⟨fun k hk _ => h.block k hk, fun k h => .inl h.symm⟩
theorem Kp.trans {v r1 r2 : Value} {w w1 w2 : World} (h1 : Kp v w w1 r1) (h2 : Kp r1 w1 w2 r2) (hs : w.heap.size ≤ w1.heap.size) : Kp v w w2 r2 := by
  refine ⟨fun k hk hne => ?_, fun k hk => ?_⟩
  · rw [h2.1 k (by omega) (fun he => ?_), h1.1 k hk hne]
    rcases h1.2 k he.symm with h | h
    · exact hne h
    · omega
  · rcases h2.2 k hk with h | h
    · exact h1.2 k h.symm
    · exact .inr (by omega)
/-- a list that is read stays, whatever is put behind v -/
def Stay (B : Nat) (v : Value) (w : World) (u : Value) (n sz : Nat) (cs : List Value) : Prop := ∀ w' r, Below B w w' → Kp v w w' r → Rd w' u n sz cs
theorem Stay.now {B : Nat} {v : Value} {w : World} {u : Value} {n sz : Nat} {cs : List Value} (h : Stay B v w u n sz cs) : Rd w u n sz cs := h w v (Below.refl _ _) (Kp.refl _ _)
theorem Stay.low {B : Nat} {v : Value} {w0 w : World} {u : Value} {n sz : Nat} {cs : List Value} (h : Rd w0 u n sz cs) (hb : Below w0.heap.size w0 w) (hB : w0.heap.size ≤ B) : Stay B v w u n sz cs :=
  fun w' _ h1 _ => h.mono (hb.trans (h1.mono hB))
theorem Stay.own {B B2 : Nat} {v : Value} {w : World} {u : Value} {n sz : Nat} {e : TypeId} {cs : List Value} (h : w.ownsRow B2 e sz u n cs) (hr : Rd w u n sz cs) (hv : ∀ k, v.ownBlock = some k → k < B2) : Stay B v w u n sz cs := by
  intro w' r _ hk
  refine hr.keep (fun k hku => ?_)
  refine hk.1 k (h.lt k hku).2 (fun he => ?_)
  have h1 := hv k he.symm
  have h2 := (h.lt k hku).1
  omega
set_option maxHeartbeats 1000000 in
theorem appendNumber_any (B : Nat) (v : Value) (bs : List Nat) (x k : Nat) (w : World) (hown : w.ownsRow B 5 1 v bs.length (u8s bs)) (hB : B ≤ w.heap.size) (hx : x < 18446744073709551616) (hk : k ≤ 8) (hl : bs.length ≤ 17592186044416) :
    Calls Tryz.prog 226 #[v, .int .u64 x, .int .i64 k] w fun e w' => ∃ r, e = .returned r ∧ w'.ownsRow B 5 1 r (bs ++ leN k x).length (u8s (bs ++ leN k x)) ∧ Below B w w' ∧ w.heap.size ≤ w'.heap.size ∧ Kp v w w' r := by
  obtain ⟨n, hn⟩ : ∃ n, bs.length = n := ⟨_, rfl⟩
  have HN := hid hn
  have HOWN := hid hown
  rw [hn] at hl
  clear hown hn
  go_enter Tryz.func226, Tryz.ntmps226
  go_wp2
  go_loopw [0, 9] (fun v0 i wr => ∃ t : Nat, t ≤ k ∧ i = .int .i64 t ∧ Hid (wr.ownsRow B 5 1 v0 (bs ++ leN t x).length (u8s (bs ++ leN t x))) ∧ Hid (Below B w wr) ∧ Hid (w.heap.size ≤ wr.heap.size) ∧ Hid (Kp v w wr v0)) (fun _ i _ => k - (intOf i).toNat)
  case atStart => exact ⟨0, by omega, rfl, by simpa [leN] using HOWN, hid (Below.refl _ _), hid (Nat.le_refl _), hid (Kp.refl _ _)⟩
  case round =>
    obtain ⟨t, ht, rfl, hown, hb, hs, hkp⟩ := hrel
    by_cases hlt : t < k
    · obtain ⟨y, hy⟩ : ∃ y, x / 2 ^ (8 * t) % 256 = y := ⟨_, rfl⟩
      obtain ⟨e, he⟩ : ∃ e, 8 * t = e := ⟨_, rfl⟩
      have hy2 : ((x : Int) / 2 ^ e) % 256 = (y : Int) := by rw [← hy, ← he]; simp
      have he1 : (8 : Int) * (t : Int) = (e : Int) := by omega
      have he2 : e < 64 := by omega
      have HS : Hid (bs ++ leN (t + 1) x = (bs ++ leN t x) ++ [y]) := hid (by rw [leN_succ, hy, List.append_assoc])
      have HL : Hid ((bs ++ leN t x).length = n + t) := hid (by rw [List.length_append, leN_length, HN.out])
      have HBS : Hid (B ≤ wr.heap.size) := hid (Nat.le_trans hB hs.out)
      clear hy he
      generalize bs ++ leN t x = cs at *
      go_wp2_with (at_builtin; refine wpList_append1W rfl (.tmp 12) (.tmp 19) rfl 5 (.int .u8 0) 1 Tryz.underlying22 Tryz.infoU8 rfl rfl rfl hown.out HBS.out (by rfl) (by have := HL.out; unfold maxLen; omega) (by have := HL.out; omega) ?_; intro v' w' ho hb3 hz3 hk3 hw3)
      have HO := hid ho
      have HB3 := hid hb3
      have HZ3 := hid hz3
      have HK3 := hid (show Kp _ wr w' v' from ⟨hk3, fun k hk => by
        rcases hw3 with h | h
        · exact .inl (by rw [← h]; exact hk.symm)
        · exact .inr (h.1 k hk)⟩)
      clear ho hb3 hz3 hk3 hw3
      go_roundw
      case rel =>
        refine ⟨t + 1, by omega, by go_num, hid ?_, hid (hb.out.trans HB3.out), hid (Nat.le_trans hs.out HZ3.out), hid (hkp.out.trans HK3.out hs.out)⟩
        rw [HS.out, List.length_append, u8s_snoc]
        exact HO.out
      case measure => simp [intOf]; omega
    · obtain rfl : t = k := by omega
      go_wp2
      go_ret
      exact ⟨_, rfl, hown.out, hb.out, hs.out, hkp.out⟩

/-- a list of bytes of the call's own -/
def OwnB (B : Nat) (w : World) (v : Value) (bs : List Nat) : Prop := w.ownsRow B 5 1 v bs.length (u8s bs)
/-- what a function that lengthens such a list hands back -/
def PutAns (B : Nat) (v : Value) (w w' : World) (e : Ending) (bs : List Nat) : Prop := ∃ r, e = .returned r ∧ OwnB B w' r bs ∧ Below B w w' ∧ w.heap.size ≤ w'.heap.size ∧ Kp v w w' r
theorem OwnB.form {B : Nat} {w : World} {v : Value} {bs : List Nat} (h : OwnB B w v bs) : ∃ A c, v = .slice A bs.length c := by
  obtain ⟨A, c, rfl, _⟩ := owns_form h
  exact ⟨A, c, rfl⟩
theorem OwnB.nil (B : Nat) (w : World) : OwnB B w (.slice none 0 0) [] := World.ownsRow_nil _ _ _ _
def le4 (es : List Int) : List Nat := es.flatMap fun x => leN 4 x.toNat
def le8 (ws : List Nat) : List Nat := ws.flatMap fun x => leN 8 x
theorem le4_snoc (es : List Int) (x : Int) : le4 (es ++ [x]) = le4 es ++ leN 4 x.toNat := by simp [le4]
theorem le8_snoc (ws : List Nat) (x : Nat) : le8 (ws ++ [x]) = le8 ws ++ leN 8 x := by simp [le8]
theorem flatMap_len {α : Type} (f : α → List Nat) (k : Nat) (h : ∀ x, (f x).length = k) (xs : List α) : (xs.flatMap f).length = k * xs.length := by
  induction xs with
  | nil => simp
  | cons a r ih => rw [List.flatMap_cons, List.length_append, ih, h, List.length_cons, Nat.mul_succ]; omega
theorem le4_len (es : List Int) : (le4 es).length = 4 * es.length := flatMap_len _ 4 (fun _ => leN_length _ _) es
theorem le8_len (ws : List Nat) : (le8 ws).length = 8 * ws.length := flatMap_len _ 8 (fun _ => leN_length _ _) ws

theorem AppendU64_any (B : Nat) (v : Value) (bs : List Nat) (x : Nat) (w : World) (hown : OwnB B w v bs) (hB : B ≤ w.heap.size) (hx : x < 18446744073709551616) (hl : bs.length ≤ 17592186044416) :
    Calls Tryz.prog 179 #[v, .int .u64 x] w fun e w' => PutAns B v w w' e (bs ++ leN 8 x) := by
  have HN := hid (appendNumber_any B v bs x 8 w hown hB hx (by omega) hl)
  obtain ⟨R, hR⟩ : ∃ R, bs ++ leN 8 x = R := ⟨_, rfl⟩
  rw [hR] at HN ⊢
  obtain ⟨A, c, rfl⟩ := hown.form
  clear hown hR
  go_enter Tryz.func179, Tryz.ntmps179
  go_wp2_with (go_at_call 226; refine HN.out.mono ?_; rintro e w1 ⟨r, rfl, h1, h2, h3, h4⟩; obtain ⟨A1, c1, rfl, _⟩ := owns_form h1; have H1 := hid h1; have H2 := hid h2; have H3 := hid h3; have H4 := hid h4; clear h1 h2 h3 h4)
  go_ret
  exact ⟨_, rfl, H1.out, H2.out, H3.out, H4.out⟩
theorem AppendU32_any (B : Nat) (v : Value) (bs : List Nat) (n : Nat) (w : World) (hown : OwnB B w v bs) (hB : B ≤ w.heap.size) (hx : n < 4294967296) (hl : bs.length ≤ 17592186044416) :
    Calls Tryz.prog 222 #[v, .int .i64 n] w fun e w' => PutAns B v w w' e (bs ++ leN 4 n) := by
  have HN := hid (appendNumber_any B v bs n 4 w hown hB (by omega) (by omega) hl)
  obtain ⟨R, hR⟩ : ∃ R, bs ++ leN 4 n = R := ⟨_, rfl⟩
  rw [hR] at HN ⊢
  obtain ⟨A, c, rfl⟩ := hown.form
  clear hown hR
  go_enter Tryz.func222, Tryz.ntmps222
  go_wp2_with (go_at_call 226; refine HN.out.mono ?_; rintro e w1 ⟨r, rfl, h1, h2, h3, h4⟩; obtain ⟨A1, c1, rfl, _⟩ := owns_form h1; have H1 := hid h1; have H2 := hid h2; have H3 := hid h3; have H4 := hid h4; clear h1 h2 h3 h4)
  go_ret
  exact ⟨_, rfl, H1.out, H2.out, H3.out, H4.out⟩
set_option maxHeartbeats 1000000 in
theorem AppendU64s_any (B : Nat) (v u : Value) (bs : List Nat) (ws : List Nat) (w : World) (hown : OwnB B w v bs) (hu : Stay B v w u ws.length 1 (u64s ws)) (hv : ∀ x ∈ ws, x < 18446744073709551616) (hB : B ≤ w.heap.size) (hl : bs.length ≤ 1099511627776) (hl2 : ws.length ≤ 1048576) :
    Calls Tryz.prog 134 #[v, u] w fun e w' => PutAns B v w w' e (bs ++ le8 ws) := by
  have HU := hid hu
  have HV := hid hv
  obtain ⟨A, c, rfl⟩ := hown.form
  obtain ⟨A1, c1, rfl, _, _, _⟩ := hu.now.form
  have HOWN := hid hown
  have HL := hid hl
  obtain ⟨b0, hb0⟩ : ∃ b0, bs.length = b0 := ⟨_, rfl⟩
  have HB0 := hid hb0
  rw [hb0] at hl
  clear hown hu hv hb0
  go_enter Tryz.func134, Tryz.ntmps134
  go_wp2_with fail
  go_loopw [0, 9] (fun r i wr => ∃ t : Nat, t ≤ ws.length ∧ i = .int .i64 t ∧ Hid (OwnB B wr r (bs ++ le8 (ws.take t))) ∧ Hid (Below B w wr) ∧ Hid (w.heap.size ≤ wr.heap.size) ∧ Hid (Kp (.slice A bs.length c) w wr r)) (fun _ i _ => ws.length - (intOf i).toNat)
  case atStart => exact ⟨0, by omega, rfl, hid (by simpa [le8] using HOWN.out), hid (Below.refl _ _), hid (Nat.le_refl _), hid (Kp.refl _ _)⟩
  case round =>
    obtain ⟨t, ht, rfl, HOW, HB1, HS, HK⟩ := hrel
    by_cases hlt : t < ws.length
    · have HLEN : Hid ((bs ++ le8 (ws.take t)).length = b0 + 8 * t) := hid (by rw [List.length_append, le8_len, List.length_take, Nat.min_eq_left ht, HB0.out])
      obtain ⟨A2, c2, rfl⟩ := HOW.out.form
      obtain ⟨b, o, rfl, hs⟩ := (HU.out wr _ HB1.out HK.out).atW (by omega)
      have e1 := hs t hlt
      have hx := HV.out (ws.getD t 0) (by simp [List.getD, List.getElem?_eq_getElem hlt])
      have HST : Hid (bs ++ le8 (ws.take (t + 1)) = (bs ++ le8 (ws.take t)) ++ leN 8 (ws.getD t 0)) := hid (by
        rw [List.take_succ_eq_append_getElem hlt, le8_snoc, List.append_assoc]
        simp [List.getD, List.getElem?_eq_getElem hlt])
      clear hs
      generalize ws.getD t 0 = x at *
      generalize bs ++ le8 (ws.take t) = cs at *
      have HN := hid (AppendU64_any B _ cs x wr HOW.out (Nat.le_trans hB HS.out) (by omega) (by have := HLEN.out; omega))
      generalize cs ++ leN 8 x = R at *
      go_wp2_with (go_at_call 179; refine HN.out.mono ?_; rintro e w1 ⟨r, rfl, h1, h2, h3, h4⟩; obtain ⟨A3, c3, rfl⟩ := h1.form; have H1 := hid h1; have H2 := hid h2; have H3 := hid h3; have H4 := hid h4; clear h1 h2 h3 h4)
      go_roundw
      case rel => exact ⟨t + 1, by omega, by go_num, hid (by rw [HST.out]; exact H1.out), hid (Below.trans HB1.out H2.out), hid (Nat.le_trans HS.out H3.out), hid (HK.out.trans H4.out HS.out)⟩
      case measure => simp [intOf]; omega
    · obtain rfl : t = ws.length := by omega
      rw [List.take_length] at HOW
      obtain ⟨A2, c2, rfl⟩ := HOW.out.form
      go_wp2_with fail
      go_ret
      exact ⟨_, rfl, HOW.out, HB1.out, HS.out, HK.out⟩
set_option maxHeartbeats 1000000 in
theorem AppendU32s_any (B : Nat) (v u : Value) (bs : List Nat) (ws : List Int) (w : World) (hown : OwnB B w v bs) (hu : Stay B v w u ws.length 1 (i64s ws)) (hv : ∀ x ∈ ws, 0 ≤ x ∧ x < 4294967296) (hB : B ≤ w.heap.size) (hl : bs.length ≤ 1099511627776) (hl2 : ws.length ≤ 1048576) :
    Calls Tryz.prog 223 #[v, u] w fun e w' => PutAns B v w w' e (bs ++ le4 ws) := by
  have HU := hid hu
  have HV := hid hv
  obtain ⟨A, c, rfl⟩ := hown.form
  obtain ⟨A1, c1, rfl, _, _, _⟩ := hu.now.form
  have HOWN := hid hown
  have HL := hid hl
  obtain ⟨b0, hb0⟩ : ∃ b0, bs.length = b0 := ⟨_, rfl⟩
  have HB0 := hid hb0
  rw [hb0] at hl
  clear hown hu hv hb0
  go_enter Tryz.func223, Tryz.ntmps223
  go_wp2_with fail
  go_loopw [0, 9] (fun r i wr => ∃ t : Nat, t ≤ ws.length ∧ i = .int .i64 t ∧ Hid (OwnB B wr r (bs ++ le4 (ws.take t))) ∧ Hid (Below B w wr) ∧ Hid (w.heap.size ≤ wr.heap.size) ∧ Hid (Kp (.slice A bs.length c) w wr r)) (fun _ i _ => ws.length - (intOf i).toNat)
  case atStart => exact ⟨0, by omega, rfl, hid (by simpa [le4] using HOWN.out), hid (Below.refl _ _), hid (Nat.le_refl _), hid (Kp.refl _ _)⟩
  case round =>
    obtain ⟨t, ht, rfl, HOW, HB1, HS, HK⟩ := hrel
    by_cases hlt : t < ws.length
    · have HLEN : Hid ((bs ++ le4 (ws.take t)).length = b0 + 4 * t) := hid (by rw [List.length_append, le4_len, List.length_take, Nat.min_eq_left ht, HB0.out])
      obtain ⟨A2, c2, rfl⟩ := HOW.out.form
      obtain ⟨b, o, rfl, hs⟩ := (HU.out wr _ HB1.out HK.out).atI (by omega)
      have e1 := hs t hlt
      have hx := HV.out (ws.getD t 0) (by simp [List.getD, List.getElem?_eq_getElem hlt])
      have HST : Hid (bs ++ le4 (ws.take (t + 1)) = (bs ++ le4 (ws.take t)) ++ leN 4 ((ws.getD t 0).toNat)) := hid (by
        rw [List.take_succ_eq_append_getElem hlt, le4_snoc, List.append_assoc]
        simp [List.getD, List.getElem?_eq_getElem hlt])
      clear hs
      generalize ws.getD t 0 = x at *
      generalize bs ++ le4 (ws.take t) = cs at *
      obtain ⟨y, rfl⟩ := Int.eq_ofNat_of_zero_le hx.1
      simp only [Int.toNat_natCast] at HST
      have HN := hid (AppendU32_any B _ cs y wr HOW.out (Nat.le_trans hB HS.out) (by omega) (by have := HLEN.out; omega))
      generalize cs ++ leN 4 y = R at *
      go_wp2_with (go_at_call 222; refine HN.out.mono ?_; rintro e w1 ⟨r, rfl, h1, h2, h3, h4⟩; obtain ⟨A3, c3, rfl⟩ := h1.form; have H1 := hid h1; have H2 := hid h2; have H3 := hid h3; have H4 := hid h4; clear h1 h2 h3 h4)
      go_roundw
      case rel => exact ⟨t + 1, by omega, by go_num, hid (by rw [HST.out]; exact H1.out), hid (Below.trans HB1.out H2.out), hid (Nat.le_trans HS.out H3.out), hid (HK.out.trans H4.out HS.out)⟩
      case measure => simp [intOf]; omega
    · obtain rfl : t = ws.length := by omega
      rw [List.take_length] at HOW
      obtain ⟨A2, c2, rfl⟩ := HOW.out.form
      go_wp2_with fail
      go_ret
      exact ⟨_, rfl, HOW.out, HB1.out, HS.out, HK.out⟩
end Go.Proofs.YthonbfojpbfmgaaGreatDoor
