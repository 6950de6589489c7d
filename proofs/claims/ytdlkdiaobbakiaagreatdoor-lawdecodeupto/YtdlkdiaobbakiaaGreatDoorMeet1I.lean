/- The code's answer and the plain answer meet: plain lists, dictionaries, runs. -/
import Derived.Test.YtdlkdiaobbakiaaGreatDoorMeet0
set_option linter.unusedVariables false
set_option linter.unusedSimpArgs false
set_option linter.unnecessarySimpa false
set_option maxRecDepth 20000
namespace Go.Proofs.YtdlkdiaobbakiaaGreatDoor
open Go.RowKit

def good_I (O : Out_I) : Bool := O.b && (!O.short && decide (O.left = []))
theorem plain_meet_I (wd k P : Nat) (xs : List Nat) (hP : P ≤ xs.length) :
    good_I (outPlain_I wd k (xs.drop P) false) = (listOk kN_I k P xs && decide (listNx kN_I k P xs = xs.length) && decide (wd = 0)) ∧
    (listOk kN_I k P xs = true → (outPlain_I wd k (xs.drop P) false).list.map pK_I = listP kN_I k P xs) := by
  obtain ⟨h1, h2⟩ := rdK_I k P xs hP
  unfold good_I outPlain_I
  generalize rdI k (xs.drop P) false = q at *
  obtain ⟨vals, ok, xl, s1⟩ := q
  simp only at h1 h2 ⊢
  subst h1
  refine ⟨?_, fun h => (h2 h).1⟩
  cases ho : listOk kN_I k P xs
  · simp
  · obtain ⟨h3, h4, h5, h6⟩ := h2 ho
    rw [h5, h4, drop_nil _ _ h6]
    have hw : decide ((wd : Int) = 0) = decide (wd = 0) := by by_cases h : wd = 0 <;> simp [h]
    rw [hw]
    generalize decide (wd = 0) = a
    generalize decide (listNx kN_I k P xs = xs.length) = b
    cases a <;> cases b <;> rfl
theorem dict_meet_I (wd k P : Nat) (xs : List Nat) (hP : P ≤ xs.length) (hk : k ≤ 65536) :
    good_I (outDict_I wd k (xs.drop P) false) = ((dictR kN_I wd k P xs).1 && decide ((dictR kN_I wd k P xs).2.length = k)) ∧
    ((dictR kN_I wd k P xs).1 = true → ∀ j, j < k → (dictR kN_I wd k P xs).2.getD j dfP = pK_I ((outDict_I wd k (xs.drop P) false).list.getD (L.laneOf wd (outDict_I wd k (xs.drop P) false).lanes j) dfI)) := by
  by_cases h4 : 4 ≤ xs.length - P
  rotate_left
  · have e1 : dictR kN_I wd k P xs = (false, []) := by
      unfold dictR; rw [if_pos (.inl (by unfold numOk; exact decide_eq_false (by omega)))]
    have e2 : (outDict_I wd k (xs.drop P) false).b = false := by
      have e3 : tk 4 (xs.drop P) = [] := by unfold tk; rw [dl, if_neg h4]
      have e4 : tkS 4 (xs.drop P) false = true := by unfold tkS; rw [dl, if_neg h4]
      unfold outDict_I
      rw [e3, e4]
      split
      · rfl
      · have hno := rd_no_I (L.wordOf 8 []) (tkL 4 (xs.drop P))
        generalize rdI (L.wordOf 8 []) (tkL 4 (xs.drop P)) true = q at *
        obtain ⟨vals, ok, xl, s1⟩ := q
        simp only at hno ⊢
        subst hno
        rfl
    rw [e1]
    refine ⟨?_, fun h => by cases h⟩
    unfold good_I; rw [e2]; rfl
  have e3 : tk 4 (xs.drop P) = (xs.drop P).take 4 := by unfold tk; rw [dl, if_pos h4]
  have e4 : tkS 4 (xs.drop P) false = false := by unfold tkS; rw [dl, if_pos h4]
  have e5 : tkL 4 (xs.drop P) = xs.drop (P + 4) := by unfold tkL; rw [dl, if_pos h4, List.drop_drop]
  have hno : numOk 4 P xs.length = true := by unfold numOk; exact decide_eq_true ⟨hP, h4⟩
  have hdn : dN P xs = L.wordOf 8 ((xs.drop P).take 4) := by unfold dN; rw [if_pos hno]
  unfold outDict_I dictR
  rw [e3, e4, e5, hno, hdn]
  generalize L.wordOf 8 ((xs.drop P).take 4) = d
  have hgg : (256 < d ∨ (wd : Int) ≠ (needN d : Int)) ↔ (256 < d ∨ wd ≠ needN d) := by omega
  by_cases hg : 256 < d ∨ wd ≠ needN d
  · rw [if_pos (hgg.2 hg), if_pos (.inr hg)]
    exact ⟨rfl, fun h => by cases h⟩
  rw [if_neg (fun h => hg (hgg.1 h)), if_neg (fun h => h.elim (fun h => by cases h) hg)]
  obtain ⟨h1, h2⟩ := rdK_I d (P + 4) xs (by omega)
  generalize rdI d (xs.drop (P + 4)) false = q at *
  obtain ⟨vals, ok, xl, s1⟩ := q
  simp only at h1 h2 ⊢
  subst h1
  cases ho : listOk kN_I d (P + 4) xs
  · simp only [Bool.false_and, Bool.false_eq_true, if_false, true_or, if_true]
    exact ⟨by simp [good_I], fun h => by cases h⟩
  obtain ⟨h3, h5, h6, h7⟩ := h2 ho
  have hll := listP_len kN_I d (P + 4) xs ho kN_or_I
  rw [← h3, List.length_map] at hll
  rw [← h3, noP_ge_I, h5, h6]
  cases hnp : noPair geI vals
  · simp only [Bool.and_false, Bool.false_eq_true, if_false, or_true, if_true]
    exact ⟨by simp [good_I], fun h => by cases h⟩
  generalize listNx kN_I d (P + 4) xs = nx at *
  simp only [Bool.and_self, if_true, Bool.true_eq_false, or_self, if_false]
  obtain ⟨m1, m2⟩ := restW_mod (xs.drop nx)
  have hlk : lanesOk wd k nx xs = (decide ((xs.drop nx).length % 8 = 0) && okPack wd k (restW (xs.drop nx))) := by
    unfold lanesOk
    rw [dl]
    congr 1
    by_cases h : (xs.length - nx) % 8 = 0
    · rw [decide_eq_true h, decide_eq_true ⟨h7, h⟩]
    · rw [decide_eq_false h, decide_eq_false (fun h2 => h h2.2)]
  have hlb := lanesB_iff wd k 6 (restW (xs.drop nx)) d (by decide) hk
  have hst : ∀ j, standsB 6 (L.laneOf wd (restW (xs.drop nx)) j) d = decide (d ≤ L.laneOf wd (restW (xs.drop nx)) j) := fun j => rfl
  unfold good_I
  simp only [m1, m2]
  cases hkk : lanesOk wd k nx xs
  · have hv : lanesV wd k nx xs = [] := by unfold lanesV; rw [hkk]; simp
    rw [hv]
    refine ⟨?_, fun h => ?_⟩
    · have hf : ¬ (lanesB wd k 6 (restW (xs.drop nx)) d = true ∧ (xs.drop nx).length % 8 = 0) := by
        rintro ⟨a, b⟩
        rw [hlk, decide_eq_true b, (hlb.1 a).1] at hkk
        cases hkk
      simp only [List.all_nil, Bool.true_eq_false, if_false, Bool.false_and, Bool.not_false, Bool.true_and]
      rw [Bool.and_eq_false_iff]
      by_cases ha : lanesB wd k 6 (restW (xs.drop nx)) d = true
      · exact .inr (decide_eq_false (fun hb => hf ⟨ha, hb⟩))
      · exact .inl (by simpa using ha)
    · simp at h
  · have hv : lanesV wd k nx xs = L.lanesL wd k (restW (xs.drop nx)) := by unfold lanesV; rw [hkk, if_pos rfl]
    rw [hlk, Bool.and_eq_true, decide_eq_true_eq] at hkk
    rw [hv]
    have hall : ((L.lanesL wd k (restW (xs.drop nx))).all fun c => decide (c < d)) = lanesB wd k 6 (restW (xs.drop nx)) d := by
      rw [Bool.eq_iff_iff, hlb, List.all_eq_true]
      constructor
      · intro h
        refine ⟨hkk.2, fun j hj => ?_⟩
        rw [hst, decide_eq_false_iff_not]
        have := h (L.laneOf wd (restW (xs.drop nx)) j) (List.mem_map.2 ⟨j, List.mem_range.2 hj, rfl⟩)
        rw [decide_eq_true_eq] at this
        omega
      · rintro ⟨_, h⟩ x hx
        obtain ⟨j, hj, rfl⟩ := List.mem_map.1 hx
        have := h j (List.mem_range.1 hj)
        rw [hst, decide_eq_false_iff_not] at this
        rw [decide_eq_true_eq]
        omega
    rw [hall]
    cases hb : lanesB wd k 6 (restW (xs.drop nx)) d
    · simp only [if_true]
      exact ⟨rfl, fun h => by cases h⟩
    · simp only [Bool.true_eq_false, if_false]
      refine ⟨?_, fun _ j hj => ?_⟩
      · have h8 := hkk.1
        rw [dl] at h8
        simp [h8, L.lanesL_length]
      · have hlt : L.laneOf wd (restW (xs.drop nx)) j < vals.length := by
          have := (hlb.1 hb).2 j hj
          rw [hst, decide_eq_false_iff_not] at this
          omega
        rw [map_getD (fun c => (vals.map pK_I).getD c dfP) (L.lanesL wd k (restW (xs.drop nx))) j 0 dfP (by rw [L.lanesL_length]; exact hj), L.lanesL_get _ _ _ _ hj, map_getD pK_I vals _ dfI dfP hlt]
theorem runs_meet_I (wd k P : Nat) (xs : List Nat) (hP : P ≤ xs.length) (hk : k ≤ 65536) :
    good_I (outRuns_I wd k (xs.drop P) false) = ((runsR kN_I k P xs).1 && decide (wd = 0) && decide ((runsR kN_I k P xs).2.length = k)) ∧
    ((runsR kN_I k P xs).1 = true → decide (wd = 0) = true → ∀ j, j < k → (runsR kN_I k P xs).2.getD j dfP = pK_I ((outRuns_I wd k (xs.drop P) false).list.getD (firstGe (nI (outRuns_I wd k (xs.drop P) false).ends) ((j : Int) + 1)) dfI)) := by
  have hno0 : ∀ (c : Nat) (X : List Nat) (E : List Nat) (b : Bool) (r : Out_I), (if (wd : Int) ≠ 0 ∨ b = false then ({ b := false, left := r.left, short := r.short, list := [], ends := E, lanes := [] } : Out_I) else match rdI c X true with
      | (vals, ok, xl, s3) => { b := ok && noPair eqI vals, left := xl, short := s3, list := vals, ends := E, lanes := [] }).b = false := by
    intro c X E b r
    split
    · rfl
    · have hno := rd_no_I c X
      generalize rdI c X true = q at *
      obtain ⟨vals, ok, xl, s1⟩ := q
      simp only at hno ⊢
      subst hno
      rfl
  by_cases h4 : 4 ≤ xs.length - P
  rotate_left
  · have e1 : runsR kN_I k P xs = (false, []) := by
      unfold runsR; rw [if_pos (.inl (by unfold numOk; exact decide_eq_false (by omega)))]
    have e2 : (outRuns_I wd k (xs.drop P) false).b = false := by
      have e4 : tkS 4 (xs.drop P) false = true := by unfold tkS; rw [dl, if_neg h4]
      unfold outRuns_I
      rw [e4, tkS_true]
      exact hno0 _ _ _ _ ⟨false, _, _, [], [], []⟩
    rw [e1]
    refine ⟨?_, fun h => by cases h⟩
    unfold good_I; rw [e2]; rfl
  have e3 : tk 4 (xs.drop P) = (xs.drop P).take 4 := by unfold tk; rw [dl, if_pos h4]
  have e4 : tkS 4 (xs.drop P) false = false := by unfold tkS; rw [dl, if_pos h4]
  have e5 : tkL 4 (xs.drop P) = xs.drop (P + 4) := by unfold tkL; rw [dl, if_pos h4, List.drop_drop]
  have hno : numOk 4 P xs.length = true := by unfold numOk; exact decide_eq_true ⟨hP, h4⟩
  have hdn : dN P xs = L.wordOf 8 ((xs.drop P).take 4) := by unfold dN; rw [if_pos hno]
  unfold outRuns_I runsR
  rw [e3, e4, e5, hno, hdn]
  generalize L.wordOf 8 ((xs.drop P).take 4) = c
  by_cases hn : 4 * c ≤ xs.length - (P + 4)
  rotate_left
  · have t2 : tkS (4 * c) (xs.drop (P + 4)) false = true := by unfold tkS; rw [dl, if_neg hn]
    have hns : numsOk 4 c (P + 4) xs.length = false := by unfold numsOk; exact decide_eq_false (by omega)
    rw [t2, hns]
    have hr : (if true = false ∨ k < c then ((false, []) : Bool × List PV) else if false = false then (false, [])
        else if listOk kN_I c (P + 4 + 4 * c) xs = false ∨ ¬ listNx kN_I c (P + 4 + 4 * c) xs = xs.length then (false, [])
        else if noPair eqP (listP kN_I c (P + 4 + 4 * c) xs) = false ∨ runEnds (nI (numL 4 (tk (4 * c) (xs.drop (P + 4))))) k = false then (false, [])
        else (true, fillP (listP kN_I c (P + 4 + 4 * c) xs) (numL 4 (tk (4 * c) (xs.drop (P + 4)))) c)) = (false, []) := by
      split
      · rfl
      · rfl
    rw [hr]
    refine ⟨?_, fun h => by cases h⟩
    unfold good_I
    rw [hno0 c _ _ _ ⟨false, _, _, [], [], []⟩]
    rfl
  have t2 : tkS (4 * c) (xs.drop (P + 4)) false = false := by unfold tkS; rw [dl, if_pos hn]
  have t3 : tkL (4 * c) (xs.drop (P + 4)) = xs.drop (P + 4 + 4 * c) := by unfold tkL; rw [dl, if_pos hn, List.drop_drop]
  have hns : numsOk 4 c (P + 4) xs.length = true := by unfold numsOk; exact decide_eq_true ⟨by omega, hn⟩
  have hel := ends_len c (P + 4) xs hns
  rw [t2, t3, hns]
  generalize numL 4 (tk (4 * c) (xs.drop (P + 4))) = E at *
  obtain ⟨re, hre⟩ : ∃ re, runEnds (nI E) k = re := ⟨_, rfl⟩
  rw [hre]
  by_cases hkc : k < c
  · have hf : re = false := by
      rw [← hre, ← Bool.not_eq_true]
      intro h
      have h1 : endsUp 0 (nI E) = some (k : Int) := by simpa [runEnds] using h
      have := endsUp_len _ _ _ h1
      rw [nI_length] at this
      omega
    subst hf
    rw [if_pos (.inr rfl), if_pos (.inr hkc)]
    exact ⟨rfl, fun h => by cases h⟩
  rw [if_neg (c := true = false ∨ k < c) (fun h => h.elim (fun h => by cases h) hkc)]
  simp only [Bool.true_eq_false, if_false]
  cases re
  · rw [if_pos (.inr rfl)]
    have hr : ∀ (p : Prop) [Decidable p] (q : Prop) [Decidable q] (hq : q) (x : List PV), (if p then ((false, []) : Bool × List PV) else if q then (false, []) else (true, x)) = (false, []) := by
      intro p _ q _ hq x
      split
      · rfl
      · rfl
    rw [hr _ _ (.inr rfl)]
    exact ⟨rfl, fun h => by cases h⟩
  by_cases hw : wd = 0
  rotate_left
  · rw [if_pos (.inl (by omega))]
    rw [decide_eq_false hw, Bool.and_false, Bool.false_and]
    exact ⟨rfl, fun _ h => by cases h⟩
  rw [if_neg (by simp; omega), decide_eq_true hw, Bool.and_true]
  have hke : endsUp 0 (nI E) = some (k : Int) := by simpa [runEnds] using hre
  obtain ⟨h1, h2⟩ := rdK_I c (P + 4 + 4 * c) xs (by omega)
  have hll := fun ho => listP_len kN_I c (P + 4 + 4 * c) xs ho kN_or_I
  generalize rdI c (xs.drop (P + 4 + 4 * c)) false = q at *
  obtain ⟨vals, ok, xl, s1⟩ := q
  simp only at h1 h2 ⊢
  subst h1
  cases ho : listOk kN_I c (P + 4 + 4 * c) xs
  · simp only [Bool.false_and, true_or, if_true]
    exact ⟨rfl, fun h => by cases h⟩
  obtain ⟨h3, h5, h6, h7⟩ := h2 ho
  have hvl := hll ho
  rw [← h3, List.length_map] at hvl
  rw [← h3, noP_eq_I, h5, h6]
  by_cases hx : listNx kN_I c (P + 4 + 4 * c) xs = xs.length
  rotate_left
  · rw [if_pos (.inr hx)]
    refine ⟨?_, fun h => by cases h⟩
    unfold good_I
    simp only
    rw [drop_nil _ _ h7, decide_eq_false hx]
    simp
  rw [if_neg (c := true = false ∨ ¬ listNx kN_I c (P + 4 + 4 * c) xs = xs.length) (fun h => h.elim (fun h => by cases h) (fun h => h hx))]
  cases hnp : noPair eqI vals
  · simp only [true_or, if_true]
    exact ⟨rfl, fun h => by cases h⟩
  simp only [Bool.true_eq_false, or_self, if_false]
  have htk : E.take c = E := by rw [← hel, List.take_length]
  have hfl := fillP_len (vals.map pK_I) E c k (by omega) (by rw [htk]; exact hke)
  refine ⟨?_, fun _ _ j hj => ?_⟩
  · unfold good_I
    simp only
    rw [drop_nil _ _ h7, decide_eq_true hx, hfl]
    simp
  · rw [fillP_get (vals.map pK_I) E c k (by omega) (by rw [htk]; exact hke) j hj, map_getD pK_I vals _ dfI dfP]
    have := firstGe_lt hre ((j : Int) + 1) (by omega) (by omega)
    rw [nI_length] at this
    omega
end Go.Proofs.YtdlkdiaobbakiaaGreatDoor
