/- The code's answer and the plain answer meet: plain lists, dictionaries, runs. -/
import Derived.Test.YtdlkdiaobbakiaaGreatDoorLawencodeuptoB13
import Derived.Test.YtdlkdiaobbakiaaGreatDoorLawencodeuptoB12
set_option linter.unusedVariables false
set_option linter.unusedSimpArgs false
set_option linter.unnecessarySimpa false
set_option maxRecDepth 20000
namespace Go.Proofs.YtdlkdiaobbakiaaGreatDoor
open Go.RowKit

def good_I (O : Out_I) : Bool := O.b && (!O.short && decide (O.left = []))
theorem plain_meet_I (wd k P : Nat) (xs : List Nat) (hP : P ≤ xs.length) :
    good_I (outPlain_I wd k (xs.drop P) false) = (listOk kN_I k P xs && decide (listNx kN_I k P xs = xs.length) && decide (wd = 0)) ∧
    (listOk kN_I k P xs = true → (outPlain_I wd k (xs.drop P) false).list.map pK_I = listP kN_I k P xs) := by
  obtain ⟨h1, h2⟩ := rdK_I k P xs hP
  unfold good_I outPlain_I
  generalize rdI k (xs.drop P) false = q at *
  obtain ⟨vals, ok, xl, s1⟩ := q
  simp only at h1 h2 ⊢
  subst h1
  refine ⟨?_, fun h => (h2 h).1⟩
  cases ho : listOk kN_I k P xs
  · simp
  · obtain ⟨h3, h4, h5, h6⟩ := h2 ho
    rw [h5, h4, drop_nil _ _ h6]
    have hw : decide ((wd : Int) = 0) = decide (wd = 0) := by by_cases h : wd = 0 <;> simp [h]
    rw [hw]
    generalize decide (wd = 0) = a
    generalize decide (listNx kN_I k P xs = xs.length) = b
    cases a <;> cases b <;> rfl
theorem dict_meet_I (wd k P : Nat) (xs : List Nat) (hP : P ≤ xs.length) (hk : k ≤ 65536) :
    good_I (outDict_I wd k (xs.drop P) false) = ((dictR kN_I wd k P xs).1 && decide ((dictR kN_I wd k P xs).2.length = k)) ∧
    ((dictR kN_I wd k P xs).1 = true → ∀ j, j < k → (dictR kN_I wd k P xs).2.getD j dfP = pK_I ((outDict_I wd k (xs.drop P) false).list.getD (L.laneOf wd (outDict_I wd k (xs.drop P) false).lanes j) dfI)) := by
  by_cases h4 : 4 ≤ xs.length - P
  rotate_left
  · have e1 : dictR kN_I wd k P xs = (false, []) := by
      unfold dictR; rw [if_pos (.inl (by unfold numOk; exact decide_eq_false (by omega)))]
    have e2 : (outDict_I wd k (xs.drop P) false).b = false := by
      have e3 : tk 4 (xs.drop P) = [] := by unfold tk; rw [dl, if_neg h4]
      have e4 : tkS 4 (xs.drop P) false = true := by unfold tkS; rw [dl, if_neg h4]
      unfold outDict_I
      rw [e3, e4]
      split
      · rfl
      · have hno := rd_no_I (L.wordOf 8 []) (tkL 4 (xs.drop P))
        generalize rdI (L.wordOf 8 []) (tkL 4 (xs.drop P)) true = q at *
        obtain ⟨vals, ok, xl, s1⟩ := q
        simp only at hno ⊢
        subst hno
        rfl
    rw [e1]
    refine ⟨?_, fun h => by cases h⟩
    unfold good_I; rw [e2]; rfl
  have e3 : tk 4 (xs.drop P) = (xs.drop P).take 4 := by unfold tk; rw [dl, if_pos h4]
  have e4 : tkS 4 (xs.drop P) false = false := by unfold tkS; rw [dl, if_pos h4]
  have e5 : tkL 4 (xs.drop P) = xs.drop (P + 4) := by unfold tkL; rw [dl, if_pos h4, List.drop_drop]
  have hno : numOk 4 P xs.length = true := by unfold numOk; exact decide_eq_true ⟨hP, h4⟩
  have hdn : dN P xs = L.wordOf 8 ((xs.drop P).take 4) := by unfold dN; rw [if_pos hno]
  unfold outDict_I dictR
  rw [e3, e4, e5, hno, hdn]
  generalize L.wordOf 8 ((xs.drop P).take 4) = d
  have hgg : (256 < d ∨ (wd : Int) ≠ (needN d : Int)) ↔ (256 < d ∨ wd ≠ needN d) := by omega
  by_cases hg : 256 < d ∨ wd ≠ needN d
  · rw [if_pos (hgg.2 hg), if_pos (.inr hg)]
    exact ⟨rfl, fun h => by cases h⟩
  rw [if_neg (fun h => hg (hgg.1 h)), if_neg (fun h => h.elim (fun h => by cases h) hg)]
  obtain ⟨h1, h2⟩ := rdK_I d (P + 4) xs (by omega)
  generalize rdI d (xs.drop (P + 4)) false = q at *
  obtain ⟨vals, ok, xl, s1⟩ := q
  simp only at h1 h2 ⊢
  subst h1
  cases ho : listOk kN_I d (P + 4) xs
  · simp only [Bool.false_and, Bool.false_eq_true, if_false, true_or, if_true]
    exact ⟨by simp [good_I], fun h => by cases h⟩
  obtain ⟨h3, h5, h6, h7⟩ := h2 ho
  have hll := listP_len kN_I d (P + 4) xs ho kN_or_I
  rw [← h3, List.length_map] at hll
  rw [← h3, noP_ge_I, h5, h6]
  cases hnp : noPair geI vals
  · simp only [Bool.and_false, Bool.false_eq_true, if_false, or_true, if_true]
    exact ⟨by simp [good_I], fun h => by cases h⟩
  generalize listNx kN_I d (P + 4) xs = nx at *
  simp only [Bool.and_self, if_true, Bool.true_eq_false, or_self, if_false]
  obtain ⟨m1, m2⟩ := restW_mod (xs.drop nx)
  have hlk : lanesOk wd k nx xs = (decide ((xs.drop nx).length % 8 = 0) && okPack wd k (restW (xs.drop nx))) := by
    unfold lanesOk
    rw [dl]
    congr 1
    by_cases h : (xs.length - nx) % 8 = 0
    · rw [decide_eq_true h, decide_eq_true ⟨h7, h⟩]
    · rw [decide_eq_false h, decide_eq_false (fun h2 => h h2.2)]
  have hlb := lanesB_iff wd k 6 (restW (xs.drop nx)) d (by decide) hk
  have hst : ∀ j, standsB 6 (L.laneOf wd (restW (xs.drop nx)) j) d = decide (d ≤ L.laneOf wd (restW (xs.drop nx)) j) := fun j => rfl
  unfold good_I
  simp only [m1, m2]
  cases hkk : lanesOk wd k nx xs
  · have hv : lanesV wd k nx xs = [] := by unfold lanesV; rw [hkk]; simp
    rw [hv]
    refine ⟨?_, fun h => ?_⟩
    · have hf : ¬ (lanesB wd k 6 (restW (xs.drop nx)) d = true ∧ (xs.drop nx).length % 8 = 0) := by
        rintro ⟨a, b⟩
        rw [hlk, decide_eq_true b, (hlb.1 a).1] at hkk
        cases hkk
      simp only [List.all_nil, Bool.true_eq_false, if_false, Bool.false_and, Bool.not_false, Bool.true_and]
      rw [Bool.and_eq_false_iff]
      by_cases ha : lanesB wd k 6 (restW (xs.drop nx)) d = true
      · exact .inr (decide_eq_false (fun hb => hf ⟨ha, hb⟩))
      · exact .inl (by simpa using ha)
    · simp at h
  · have hv : lanesV wd k nx xs = L.lanesL wd k (restW (xs.drop nx)) := by unfold lanesV; rw [hkk, if_pos rfl]
    rw [hlk, Bool.and_eq_true, decide_eq_true_eq] at hkk
    rw [hv]
    have hall : ((L.lanesL wd k (restW (xs.drop nx))).all fun c => decide (c < d)) = lanesB wd k 6 (restW (xs.drop nx)) d := by
      rw [Bool.eq_iff_iff, hlb, List.all_eq_true]
      constructor
      · intro h
        refine ⟨hkk.2, fun j hj => ?_⟩
        rw [hst, decide_eq_false_iff_not]
        have := h (L.laneOf wd (restW (xs.drop nx)) j) (List.mem_map.2 ⟨j, List.mem_range.2 hj, rfl⟩)
        rw [decide_eq_true_eq] at this
        omega
      · rintro ⟨_, h⟩ x hx
        obtain ⟨j, hj, rfl⟩ := List.mem_map.1 hx
        have := h j (List.mem_range.1 hj)
        rw [hst, decide_eq_false_iff_not] at this
        rw [decide_eq_true_eq]
        omega
    rw [hall]
    cases hb : lanesB wd k 6 (restW (xs.drop nx)) d
    · simp only [if_true]
      exact ⟨rfl, fun h => by cases h⟩
    · simp only [Bool.true_eq_false, if_false]
      refine ⟨?_, fun _ j hj => ?_⟩
      · have h8 := hkk.1
        rw [dl] at h8
        simp [h8, L.lanesL_length]
      · have hlt : L.laneOf wd (restW (xs.drop nx)) j < vals.length := by
          have := (hlb.1 hb).2 j hj
          rw [hst, decide_eq_false_iff_not] at this
          omega
        rw [map_getD (fun c => (vals.map pK_I).getD c dfP) (L.lanesL wd k (restW (xs.drop nx))) j 0 dfP (by rw [L.lanesL_length]; exact hj), L.lanesL_get _ _ _ _ hj, map_getD pK_I vals _ dfI dfP hlt]
theorem runs_meet_I (wd k P : Nat) (xs : List Nat) (hP : P ≤ xs.length) (hk : k ≤ 65536) :
    good_I (outRuns_I wd k (xs.drop P) false) = ((runsR kN_I k P xs).1 && decide (wd = 0) && decide ((runsR kN_I k P xs).2.length = k)) ∧
    ((runsR kN_I k P xs).1 = true → decide (wd = 0) = true → ∀ j, j < k → (runsR kN_I k P xs).2.getD j dfP = pK_I ((outRuns_I wd k (xs.drop P) false).list.getD (firstGe (nI (outRuns_I wd k (xs.drop P) false).ends) ((j : Int) + 1)) dfI)) := by
  have hno0 : ∀ (c : Nat) (X : List Nat) (E : List Nat) (b : Bool) (r : Out_I), (if (wd : Int) ≠ 0 ∨ b = false then ({ b := false, left := r.left, short := r.short, list := [], ends := E, lanes := [] } : Out_I) else match rdI c X true with
      | (vals, ok, xl, s3) => { b := ok && noPair eqI vals, left := xl, short := s3, list := vals, ends := E, lanes := [] }).b = false := by
    intro c X E b r
    split
    · rfl
    · have hno := rd_no_I c X
      generalize rdI c X true = q at *
      obtain ⟨vals, ok, xl, s1⟩ := q
      simp only at hno ⊢
      subst hno
      rfl
  by_cases h4 : 4 ≤ xs.length - P
  rotate_left
  · have e1 : runsR kN_I k P xs = (false, []) := by
      unfold runsR; rw [if_pos (.inl (by unfold numOk; exact decide_eq_false (by omega)))]
    have e2 : (outRuns_I wd k (xs.drop P) false).b = false := by
      have e4 : tkS 4 (xs.drop P) false = true := by unfold tkS; rw [dl, if_neg h4]
      unfold outRuns_I
      rw [e4, tkS_true]
      exact hno0 _ _ _ _ ⟨false, _, _, [], [], []⟩
    rw [e1]
    refine ⟨?_, fun h => by cases h⟩
    unfold good_I; rw [e2]; rfl
  have e3 : tk 4 (xs.drop P) = (xs.drop P).take 4 := by unfold tk; rw [dl, if_pos h4]
  have e4 : tkS 4 (xs.drop P) false = false := by unfold tkS; rw [dl, if_pos h4]
  have e5 : tkL 4 (xs.drop P) = xs.drop (P + 4) := by unfold tkL; rw [dl, if_pos h4, List.drop_drop]
  have hno : numOk 4 P xs.length = true := by unfold numOk; exact decide_eq_true ⟨hP, h4⟩
  have hdn : dN P xs = L.wordOf 8 ((xs.drop P).take 4) := by unfold dN; rw [if_pos hno]
  unfold outRuns_I runsR
  rw [e3, e4, e5, hno, hdn]
  generalize L.wordOf 8 ((xs.drop P).take 4) = c
  by_cases hn : 4 * c ≤ xs.length - (P + 4)
  rotate_left
  · have t2 : tkS (4 * c) (xs.drop (P + 4)) false = true := by unfold tkS; rw [dl, if_neg hn]
    have hns : numsOk 4 c (P + 4) xs.length = false := by unfold numsOk; exact decide_eq_false (by omega)
    rw [t2, hns]
    have hr : (if true = false ∨ k < c then ((false, []) : Bool × List PV) else if false = false then (false, [])
        else if listOk kN_I c (P + 4 + 4 * c) xs = false ∨ ¬ listNx kN_I c (P + 4 + 4 * c) xs = xs.length then (false, [])
        else if noPair eqP (listP kN_I c (P + 4 + 4 * c) xs) = false ∨ runEnds (nI (numL 4 (tk (4 * c) (xs.drop (P + 4))))) k = false then (false, [])
        else (true, fillP (listP kN_I c (P + 4 + 4 * c) xs) (numL 4 (tk (4 * c) (xs.drop (P + 4)))) c)) = (false, []) := by
      split
      · rfl
      · rfl
    rw [hr]
    refine ⟨?_, fun h => by cases h⟩
    unfold good_I
    rw [hno0 c _ _ _ ⟨false, _, _, [], [], []⟩]
    rfl
  have t2 : tkS (4 * c) (xs.drop (P + 4)) false = false := by unfold tkS; rw [dl, if_pos hn]
  have t3 : tkL (4 * c) (xs.drop (P + 4)) = xs.drop (P + 4 + 4 * c) := by unfold tkL; rw [dl, if_pos hn, List.drop_drop]
  have hns : numsOk 4 c (P + 4) xs.length = true := by unfold numsOk; exact decide_eq_true ⟨by omega, hn⟩
  have hel := ends_len c (P + 4) xs hns
  rw [t2, t3, hns]
  generalize numL 4 (tk (4 * c) (xs.drop (P + 4))) = E at *
  obtain ⟨re, hre⟩ : ∃ re, runEnds (nI E) k = re := ⟨_, rfl⟩
  rw [hre]
  by_cases hkc : k < c
  · have hf : re = false := by
      rw [← hre, ← Bool.not_eq_true]
      intro h
      have h1 : endsUp 0 (nI E) = some (k : Int) := by simpa [runEnds] using h
      have := endsUp_len _ _ _ h1
      rw [nI_length] at this
      omega
    subst hf
    rw [if_pos (.inr rfl), if_pos (.inr hkc)]
    exact ⟨rfl, fun h => by cases h⟩
  rw [if_neg (c := true = false ∨ k < c) (fun h => h.elim (fun h => by cases h) hkc)]
  simp only [Bool.true_eq_false, if_false]
  cases re
  · rw [if_pos (.inr rfl)]
    have hr : ∀ (p : Prop) [Decidable p] (q : Prop) [Decidable q] (hq : q) (x : List PV), (if p then ((false, []) : Bool × List PV) else if q then (false, []) else (true, x)) = (false, []) := by
      intro p _ q _ hq x
      split
      · rfl
      · rfl
    rw [hr _ _ (.inr rfl)]
    exact ⟨rfl, fun h => by cases h⟩
  by_cases hw : wd = 0
  rotate_left
  · rw [if_pos (.inl (by omega))]
    rw [decide_eq_false hw, Bool.and_false, Bool.false_and]
    exact ⟨rfl, fun _ h => by cases h⟩
  rw [if_neg (by simp; omega), decide_eq_true hw, Bool.and_true]
  have hke : endsUp 0 (nI E) = some (k : Int) := by simpa [runEnds] using hre
  obtain ⟨h1, h2⟩ := rdK_I c (P + 4 + 4 * c) xs (by omega)
  have hll := fun ho => listP_len kN_I c (P + 4 + 4 * c) xs ho kN_or_I
  generalize rdI c (xs.drop (P + 4 + 4 * c)) false = q at *
  obtain ⟨vals, ok, xl, s1⟩ := q
  simp only at h1 h2 ⊢
  subst h1
  cases ho : listOk kN_I c (P + 4 + 4 * c) xs
  · simp only [Bool.false_and, true_or, if_true]
    exact ⟨rfl, fun h => by cases h⟩
  obtain ⟨h3, h5, h6, h7⟩ := h2 ho
  have hvl := hll ho
  rw [← h3, List.length_map] at hvl
  rw [← h3, noP_eq_I, h5, h6]
  by_cases hx : listNx kN_I c (P + 4 + 4 * c) xs = xs.length
  rotate_left
  · rw [if_pos (.inr hx)]
    refine ⟨?_, fun h => by cases h⟩
    unfold good_I
    simp only
    rw [drop_nil _ _ h7, decide_eq_false hx]
    simp
  rw [if_neg (c := true = false ∨ ¬ listNx kN_I c (P + 4 + 4 * c) xs = xs.length) (fun h => h.elim (fun h => by cases h) (fun h => h hx))]
  cases hnp : noPair eqI vals
  · simp only [true_or, if_true]
    exact ⟨rfl, fun h => by cases h⟩
  simp only [Bool.true_eq_false, or_self, if_false]
  have htk : E.take c = E := by rw [← hel, List.take_length]
  have hfl := fillP_len (vals.map pK_I) E c k (by omega) (by rw [htk]; exact hke)
  refine ⟨?_, fun _ _ j hj => ?_⟩
  · unfold good_I
    simp only
    rw [drop_nil _ _ h7, decide_eq_true hx, hfl]
    simp
  · rw [fillP_get (vals.map pK_I) E c k (by omega) (by rw [htk]; exact hke) j hj, map_getD pK_I vals _ dfI dfP]
    have := firstGe_lt hre ((j : Int) + 1) (by omega) (by omega)
    rw [nI_length] at this
    omega
end Go.Proofs.YtdlkdiaobbakiaaGreatDoor

/- The code's answer and the plain answer meet: plain lists, dictionaries, runs. -/
set_option linter.unusedVariables false
set_option linter.unusedSimpArgs false
set_option linter.unnecessarySimpa false
set_option maxRecDepth 20000
namespace Go.Proofs.YtdlkdiaobbakiaaGreatDoor
open Go.RowKit

def good_S (O : Out_S) : Bool := O.b && (!O.short && decide (O.left = []))
theorem plain_meet_S (wd k P : Nat) (xs : List Nat) (hP : P ≤ xs.length) :
    good_S (outPlain_S wd k (xs.drop P) false) = (listOk kN_S k P xs && decide (listNx kN_S k P xs = xs.length) && decide (wd = 0)) ∧
    (listOk kN_S k P xs = true → (outPlain_S wd k (xs.drop P) false).list.map pK_S = listP kN_S k P xs) := by
  obtain ⟨h1, h2⟩ := rdK_S k P xs hP
  unfold good_S outPlain_S
  generalize rdS k (xs.drop P) false = q at *
  obtain ⟨vals, ok, xl, s1⟩ := q
  simp only at h1 h2 ⊢
  subst h1
  refine ⟨?_, fun h => (h2 h).1⟩
  cases ho : listOk kN_S k P xs
  · simp
  · obtain ⟨h3, h4, h5, h6⟩ := h2 ho
    rw [h5, h4, drop_nil _ _ h6]
    have hw : decide ((wd : Int) = 0) = decide (wd = 0) := by by_cases h : wd = 0 <;> simp [h]
    rw [hw]
    generalize decide (wd = 0) = a
    generalize decide (listNx kN_S k P xs = xs.length) = b
    cases a <;> cases b <;> rfl
theorem dict_meet_S (wd k P : Nat) (xs : List Nat) (hP : P ≤ xs.length) (hk : k ≤ 65536) :
    good_S (outDict_S wd k (xs.drop P) false) = ((dictR kN_S wd k P xs).1 && decide ((dictR kN_S wd k P xs).2.length = k)) ∧
    ((dictR kN_S wd k P xs).1 = true → ∀ j, j < k → (dictR kN_S wd k P xs).2.getD j dfP = pK_S ((outDict_S wd k (xs.drop P) false).list.getD (L.laneOf wd (outDict_S wd k (xs.drop P) false).lanes j) dfS)) := by
  by_cases h4 : 4 ≤ xs.length - P
  rotate_left
  · have e1 : dictR kN_S wd k P xs = (false, []) := by
      unfold dictR; rw [if_pos (.inl (by unfold numOk; exact decide_eq_false (by omega)))]
    have e2 : (outDict_S wd k (xs.drop P) false).b = false := by
      have e3 : tk 4 (xs.drop P) = [] := by unfold tk; rw [dl, if_neg h4]
      have e4 : tkS 4 (xs.drop P) false = true := by unfold tkS; rw [dl, if_neg h4]
      unfold outDict_S
      rw [e3, e4]
      split
      · rfl
      · have hno := rd_no_S (L.wordOf 8 []) (tkL 4 (xs.drop P))
        generalize rdS (L.wordOf 8 []) (tkL 4 (xs.drop P)) true = q at *
        obtain ⟨vals, ok, xl, s1⟩ := q
        simp only at hno ⊢
        subst hno
        rfl
    rw [e1]
    refine ⟨?_, fun h => by cases h⟩
    unfold good_S; rw [e2]; rfl
  have e3 : tk 4 (xs.drop P) = (xs.drop P).take 4 := by unfold tk; rw [dl, if_pos h4]
  have e4 : tkS 4 (xs.drop P) false = false := by unfold tkS; rw [dl, if_pos h4]
  have e5 : tkL 4 (xs.drop P) = xs.drop (P + 4) := by unfold tkL; rw [dl, if_pos h4, List.drop_drop]
  have hno : numOk 4 P xs.length = true := by unfold numOk; exact decide_eq_true ⟨hP, h4⟩
  have hdn : dN P xs = L.wordOf 8 ((xs.drop P).take 4) := by unfold dN; rw [if_pos hno]
  unfold outDict_S dictR
  rw [e3, e4, e5, hno, hdn]
  generalize L.wordOf 8 ((xs.drop P).take 4) = d
  have hgg : (256 < d ∨ (wd : Int) ≠ (needN d : Int)) ↔ (256 < d ∨ wd ≠ needN d) := by omega
  by_cases hg : 256 < d ∨ wd ≠ needN d
  · rw [if_pos (hgg.2 hg), if_pos (.inr hg)]
    exact ⟨rfl, fun h => by cases h⟩
  rw [if_neg (fun h => hg (hgg.1 h)), if_neg (fun h => h.elim (fun h => by cases h) hg)]
  obtain ⟨h1, h2⟩ := rdK_S d (P + 4) xs (by omega)
  generalize rdS d (xs.drop (P + 4)) false = q at *
  obtain ⟨vals, ok, xl, s1⟩ := q
  simp only at h1 h2 ⊢
  subst h1
  cases ho : listOk kN_S d (P + 4) xs
  · simp only [Bool.false_and, Bool.false_eq_true, if_false, true_or, if_true]
    exact ⟨by simp [good_S], fun h => by cases h⟩
  obtain ⟨h3, h5, h6, h7⟩ := h2 ho
  have hll := listP_len kN_S d (P + 4) xs ho kN_or_S
  rw [← h3, List.length_map] at hll
  rw [← h3, noP_ge_S, h5, h6]
  cases hnp : noPair geS vals
  · simp only [Bool.and_false, Bool.false_eq_true, if_false, or_true, if_true]
    exact ⟨by simp [good_S], fun h => by cases h⟩
  generalize listNx kN_S d (P + 4) xs = nx at *
  simp only [Bool.and_self, if_true, Bool.true_eq_false, or_self, if_false]
  obtain ⟨m1, m2⟩ := restW_mod (xs.drop nx)
  have hlk : lanesOk wd k nx xs = (decide ((xs.drop nx).length % 8 = 0) && okPack wd k (restW (xs.drop nx))) := by
    unfold lanesOk
    rw [dl]
    congr 1
    by_cases h : (xs.length - nx) % 8 = 0
    · rw [decide_eq_true h, decide_eq_true ⟨h7, h⟩]
    · rw [decide_eq_false h, decide_eq_false (fun h2 => h h2.2)]
  have hlb := lanesB_iff wd k 6 (restW (xs.drop nx)) d (by decide) hk
  have hst : ∀ j, standsB 6 (L.laneOf wd (restW (xs.drop nx)) j) d = decide (d ≤ L.laneOf wd (restW (xs.drop nx)) j) := fun j => rfl
  unfold good_S
  simp only [m1, m2]
  cases hkk : lanesOk wd k nx xs
  · have hv : lanesV wd k nx xs = [] := by unfold lanesV; rw [hkk]; simp
    rw [hv]
    refine ⟨?_, fun h => ?_⟩
    · have hf : ¬ (lanesB wd k 6 (restW (xs.drop nx)) d = true ∧ (xs.drop nx).length % 8 = 0) := by
        rintro ⟨a, b⟩
        rw [hlk, decide_eq_true b, (hlb.1 a).1] at hkk
        cases hkk
      simp only [List.all_nil, Bool.true_eq_false, if_false, Bool.false_and, Bool.not_false, Bool.true_and]
      rw [Bool.and_eq_false_iff]
      by_cases ha : lanesB wd k 6 (restW (xs.drop nx)) d = true
      · exact .inr (decide_eq_false (fun hb => hf ⟨ha, hb⟩))
      · exact .inl (by simpa using ha)
    · simp at h
  · have hv : lanesV wd k nx xs = L.lanesL wd k (restW (xs.drop nx)) := by unfold lanesV; rw [hkk, if_pos rfl]
    rw [hlk, Bool.and_eq_true, decide_eq_true_eq] at hkk
    rw [hv]
    have hall : ((L.lanesL wd k (restW (xs.drop nx))).all fun c => decide (c < d)) = lanesB wd k 6 (restW (xs.drop nx)) d := by
      rw [Bool.eq_iff_iff, hlb, List.all_eq_true]
      constructor
      · intro h
        refine ⟨hkk.2, fun j hj => ?_⟩
        rw [hst, decide_eq_false_iff_not]
        have := h (L.laneOf wd (restW (xs.drop nx)) j) (List.mem_map.2 ⟨j, List.mem_range.2 hj, rfl⟩)
        rw [decide_eq_true_eq] at this
        omega
      · rintro ⟨_, h⟩ x hx
        obtain ⟨j, hj, rfl⟩ := List.mem_map.1 hx
        have := h j (List.mem_range.1 hj)
        rw [hst, decide_eq_false_iff_not] at this
        rw [decide_eq_true_eq]
        omega
    rw [hall]
    cases hb : lanesB wd k 6 (restW (xs.drop nx)) d
    · simp only [if_true]
      exact ⟨rfl, fun h => by cases h⟩
    · simp only [Bool.true_eq_false, if_false]
      refine ⟨?_, fun _ j hj => ?_⟩
      · have h8 := hkk.1
        rw [dl] at h8
        simp [h8, L.lanesL_length]
      · have hlt : L.laneOf wd (restW (xs.drop nx)) j < vals.length := by
          have := (hlb.1 hb).2 j hj
          rw [hst, decide_eq_false_iff_not] at this
          omega
        rw [map_getD (fun c => (vals.map pK_S).getD c dfP) (L.lanesL wd k (restW (xs.drop nx))) j 0 dfP (by rw [L.lanesL_length]; exact hj), L.lanesL_get _ _ _ _ hj, map_getD pK_S vals _ dfS dfP hlt]
theorem runs_meet_S (wd k P : Nat) (xs : List Nat) (hP : P ≤ xs.length) (hk : k ≤ 65536) :
    good_S (outRuns_S wd k (xs.drop P) false) = ((runsR kN_S k P xs).1 && decide (wd = 0) && decide ((runsR kN_S k P xs).2.length = k)) ∧
    ((runsR kN_S k P xs).1 = true → decide (wd = 0) = true → ∀ j, j < k → (runsR kN_S k P xs).2.getD j dfP = pK_S ((outRuns_S wd k (xs.drop P) false).list.getD (firstGe (nI (outRuns_S wd k (xs.drop P) false).ends) ((j : Int) + 1)) dfS)) := by
  have hno0 : ∀ (c : Nat) (X : List Nat) (E : List Nat) (b : Bool) (r : Out_S), (if (wd : Int) ≠ 0 ∨ b = false then ({ b := false, left := r.left, short := r.short, list := [], ends := E, lanes := [] } : Out_S) else match rdS c X true with
      | (vals, ok, xl, s3) => { b := ok && noPair eqS vals, left := xl, short := s3, list := vals, ends := E, lanes := [] }).b = false := by
    intro c X E b r
    split
    · rfl
    · have hno := rd_no_S c X
      generalize rdS c X true = q at *
      obtain ⟨vals, ok, xl, s1⟩ := q
      simp only at hno ⊢
      subst hno
      rfl
  by_cases h4 : 4 ≤ xs.length - P
  rotate_left
  · have e1 : runsR kN_S k P xs = (false, []) := by
      unfold runsR; rw [if_pos (.inl (by unfold numOk; exact decide_eq_false (by omega)))]
    have e2 : (outRuns_S wd k (xs.drop P) false).b = false := by
      have e4 : tkS 4 (xs.drop P) false = true := by unfold tkS; rw [dl, if_neg h4]
      unfold outRuns_S
      rw [e4, tkS_true]
      exact hno0 _ _ _ _ ⟨false, _, _, [], [], []⟩
    rw [e1]
    refine ⟨?_, fun h => by cases h⟩
    unfold good_S; rw [e2]; rfl
  have e3 : tk 4 (xs.drop P) = (xs.drop P).take 4 := by unfold tk; rw [dl, if_pos h4]
  have e4 : tkS 4 (xs.drop P) false = false := by unfold tkS; rw [dl, if_pos h4]
  have e5 : tkL 4 (xs.drop P) = xs.drop (P + 4) := by unfold tkL; rw [dl, if_pos h4, List.drop_drop]
  have hno : numOk 4 P xs.length = true := by unfold numOk; exact decide_eq_true ⟨hP, h4⟩
  have hdn : dN P xs = L.wordOf 8 ((xs.drop P).take 4) := by unfold dN; rw [if_pos hno]
  unfold outRuns_S runsR
  rw [e3, e4, e5, hno, hdn]
  generalize L.wordOf 8 ((xs.drop P).take 4) = c
  by_cases hn : 4 * c ≤ xs.length - (P + 4)
  rotate_left
  · have t2 : tkS (4 * c) (xs.drop (P + 4)) false = true := by unfold tkS; rw [dl, if_neg hn]
    have hns : numsOk 4 c (P + 4) xs.length = false := by unfold numsOk; exact decide_eq_false (by omega)
    rw [t2, hns]
    have hr : (if true = false ∨ k < c then ((false, []) : Bool × List PV) else if false = false then (false, [])
        else if listOk kN_S c (P + 4 + 4 * c) xs = false ∨ ¬ listNx kN_S c (P + 4 + 4 * c) xs = xs.length then (false, [])
        else if noPair eqP (listP kN_S c (P + 4 + 4 * c) xs) = false ∨ runEnds (nI (numL 4 (tk (4 * c) (xs.drop (P + 4))))) k = false then (false, [])
        else (true, fillP (listP kN_S c (P + 4 + 4 * c) xs) (numL 4 (tk (4 * c) (xs.drop (P + 4)))) c)) = (false, []) := by
      split
      · rfl
      · rfl
    rw [hr]
    refine ⟨?_, fun h => by cases h⟩
    unfold good_S
    rw [hno0 c _ _ _ ⟨false, _, _, [], [], []⟩]
    rfl
  have t2 : tkS (4 * c) (xs.drop (P + 4)) false = false := by unfold tkS; rw [dl, if_pos hn]
  have t3 : tkL (4 * c) (xs.drop (P + 4)) = xs.drop (P + 4 + 4 * c) := by unfold tkL; rw [dl, if_pos hn, List.drop_drop]
  have hns : numsOk 4 c (P + 4) xs.length = true := by unfold numsOk; exact decide_eq_true ⟨by omega, hn⟩
  have hel := ends_len c (P + 4) xs hns
  rw [t2, t3, hns]
  generalize numL 4 (tk (4 * c) (xs.drop (P + 4))) = E at *
  obtain ⟨re, hre⟩ : ∃ re, runEnds (nI E) k = re := ⟨_, rfl⟩
  rw [hre]
  by_cases hkc : k < c
  · have hf : re = false := by
      rw [← hre, ← Bool.not_eq_true]
      intro h
      have h1 : endsUp 0 (nI E) = some (k : Int) := by simpa [runEnds] using h
      have := endsUp_len _ _ _ h1
      rw [nI_length] at this
      omega
    subst hf
    rw [if_pos (.inr rfl), if_pos (.inr hkc)]
    exact ⟨rfl, fun h => by cases h⟩
  rw [if_neg (c := true = false ∨ k < c) (fun h => h.elim (fun h => by cases h) hkc)]
  simp only [Bool.true_eq_false, if_false]
  cases re
  · rw [if_pos (.inr rfl)]
    have hr : ∀ (p : Prop) [Decidable p] (q : Prop) [Decidable q] (hq : q) (x : List PV), (if p then ((false, []) : Bool × List PV) else if q then (false, []) else (true, x)) = (false, []) := by
      intro p _ q _ hq x
      split
      · rfl
      · rfl
    rw [hr _ _ (.inr rfl)]
    exact ⟨rfl, fun h => by cases h⟩
  by_cases hw : wd = 0
  rotate_left
  · rw [if_pos (.inl (by omega))]
    rw [decide_eq_false hw, Bool.and_false, Bool.false_and]
    exact ⟨rfl, fun _ h => by cases h⟩
  rw [if_neg (by simp; omega), decide_eq_true hw, Bool.and_true]
  have hke : endsUp 0 (nI E) = some (k : Int) := by simpa [runEnds] using hre
  obtain ⟨h1, h2⟩ := rdK_S c (P + 4 + 4 * c) xs (by omega)
  have hll := fun ho => listP_len kN_S c (P + 4 + 4 * c) xs ho kN_or_S
  generalize rdS c (xs.drop (P + 4 + 4 * c)) false = q at *
  obtain ⟨vals, ok, xl, s1⟩ := q
  simp only at h1 h2 ⊢
  subst h1
  cases ho : listOk kN_S c (P + 4 + 4 * c) xs
  · simp only [Bool.false_and, true_or, if_true]
    exact ⟨rfl, fun h => by cases h⟩
  obtain ⟨h3, h5, h6, h7⟩ := h2 ho
  have hvl := hll ho
  rw [← h3, List.length_map] at hvl
  rw [← h3, noP_eq_S, h5, h6]
  by_cases hx : listNx kN_S c (P + 4 + 4 * c) xs = xs.length
  rotate_left
  · rw [if_pos (.inr hx)]
    refine ⟨?_, fun h => by cases h⟩
    unfold good_S
    simp only
    rw [drop_nil _ _ h7, decide_eq_false hx]
    simp
  rw [if_neg (c := true = false ∨ ¬ listNx kN_S c (P + 4 + 4 * c) xs = xs.length) (fun h => h.elim (fun h => by cases h) (fun h => h hx))]
  cases hnp : noPair eqS vals
  · simp only [true_or, if_true]
    exact ⟨rfl, fun h => by cases h⟩
  simp only [Bool.true_eq_false, or_self, if_false]
  have htk : E.take c = E := by rw [← hel, List.take_length]
  have hfl := fillP_len (vals.map pK_S) E c k (by omega) (by rw [htk]; exact hke)
  refine ⟨?_, fun _ _ j hj => ?_⟩
  · unfold good_S
    simp only
    rw [drop_nil _ _ h7, decide_eq_true hx, hfl]
    simp
  · rw [fillP_get (vals.map pK_S) E c k (by omega) (by rw [htk]; exact hke) j hj, map_getD pK_S vals _ dfS dfP]
    have := firstGe_lt hre ((j : Int) + 1) (by omega) (by omega)
    rw [nI_length] at this
    omega
end Go.Proofs.YtdlkdiaobbakiaaGreatDoor

/- The code's answer and the plain answer meet: frames, the head of a body, readers that are short. -/
set_option linter.unusedVariables false
set_option linter.unusedSimpArgs false
set_option linter.unnecessarySimpa false
set_option maxRecDepth 20000
namespace Go.Proofs.YtdlkdiaobbakiaaGreatDoor
open Go.RowKit

theorem val_vsum (base : Int) (x : Nat) : val45 base x = vsum base x := by
  unfold val45 vsum wrap64
  rw [IntKind.wrap_i64, IntKind.wrap_i64, IntKind.wrap_u64, IntKind.wrap_u64]
  omega
theorem lanesOk_eq (wd k p : Nat) (xs : List Nat) (hp : p ≤ xs.length) : lanesOk wd k p xs = (decide ((xs.drop p).length % 8 = 0) && okPack wd k (restW (xs.drop p))) := by
  unfold lanesOk
  rw [dl]
  congr 1
  by_cases h : (xs.length - p) % 8 = 0
  · rw [decide_eq_true h, decide_eq_true ⟨hp, h⟩]
  · rw [decide_eq_false h, decide_eq_false (fun h2 => h h2.2)]
theorem off_meet (wd k p : Nat) (base : Int) (xs : List Nat) (hp : p ≤ xs.length) (hk : k ≤ 65536) :
    good_I (outOff wd base k (xs.drop p) false) = ((fits base (lanesV wd k p xs) && lanesOk wd k p xs) && decide (((sumsL base (lanesV wd k p xs)).map pI).length = k)) ∧
    ((fits base (lanesV wd k p xs) && lanesOk wd k p xs) = true → ∀ j, j < k → ((sumsL base (lanesV wd k p xs)).map pI).getD j dfP = pK_I (val45 base (L.laneOf wd (restW (xs.drop p)) j))) := by
  obtain ⟨m1, m2⟩ := restW_mod (xs.drop p)
  have hlk := lanesOk_eq wd k p xs hp
  have hlb := lanesB_iff wd k 5 (restW (xs.drop p)) (roomN base) (by decide) hk
  have hst : ∀ j, standsB 5 (L.laneOf wd (restW (xs.drop p)) j) (roomN base) = decide (roomN base < L.laneOf wd (restW (xs.drop p)) j) := fun j => rfl
  unfold good_I outOff
  simp only [m1, m2]
  cases hkk : lanesOk wd k p xs
  · rw [Bool.and_false, Bool.false_and]
    refine ⟨?_, fun h => by cases h⟩
    have hf : ¬ (lanesB wd k 5 (restW (xs.drop p)) (roomN base) = true ∧ (xs.drop p).length % 8 = 0) := by
      rintro ⟨a, b⟩
      rw [hlk, decide_eq_true b, (hlb.1 a).1] at hkk
      cases hkk
    simp only [Bool.not_false, Bool.true_and]
    rw [Bool.and_eq_false_iff]
    by_cases ha : lanesB wd k 5 (restW (xs.drop p)) (roomN base) = true
    · exact .inr (decide_eq_false (fun hb => hf ⟨ha, hb⟩))
    · exact .inl (by simpa using ha)
  · have hv : lanesV wd k p xs = L.lanesL wd k (restW (xs.drop p)) := by unfold lanesV; rw [hkk, if_pos rfl]
    rw [hlk, Bool.and_eq_true, decide_eq_true_eq] at hkk
    rw [hv]
    have hall : fits base (L.lanesL wd k (restW (xs.drop p))) = lanesB wd k 5 (restW (xs.drop p)) (roomN base) := by
      unfold fits
      rw [Bool.eq_iff_iff, hlb, List.all_eq_true]
      constructor
      · intro h
        refine ⟨hkk.2, fun j hj => ?_⟩
        rw [hst, decide_eq_false_iff_not]
        have := h (L.laneOf wd (restW (xs.drop p)) j) (List.mem_map.2 ⟨j, List.mem_range.2 hj, rfl⟩)
        rw [decide_eq_true_eq] at this
        omega
      · rintro ⟨_, h⟩ x hx
        obtain ⟨j, hj, rfl⟩ := List.mem_map.1 hx
        have := h j (List.mem_range.1 hj)
        rw [hst, decide_eq_false_iff_not] at this
        rw [decide_eq_true_eq]
        omega
    have hsl : lanesB wd k 5 (restW (xs.drop p)) (roomN base) = true → sumsL base (L.lanesL wd k (restW (xs.drop p))) = (L.lanesL wd k (restW (xs.drop p))).map (vsum base) := fun h => by
      unfold sumsL; rw [hall, h, if_pos rfl]
    rw [hall]
    cases hb : lanesB wd k 5 (restW (xs.drop p)) (roomN base)
    · exact ⟨rfl, fun h => by cases h⟩
    · rw [hsl hb]
      refine ⟨?_, fun _ j hj => ?_⟩
      · rw [List.length_map, List.length_map, L.lanesL_length, decide_eq_true hkk.1, decide_eq_true rfl]; rfl
      · rw [List.map_map, map_getD (pI ∘ vsum base) (L.lanesL wd k (restW (xs.drop p))) j 0 dfP (by rw [L.lanesL_length]; exact hj), L.lanesL_get _ _ _ _ hj, val_vsum]
        rfl
theorem off_short (wd k : Nat) (base : Int) (X : List Nat) : good_I (outOff wd base k X true) = false := by
  unfold good_I outOff
  simp only [tkS_true, Bool.not_true, Bool.false_and, Bool.and_false]
theorem off_wide (wd k : Nat) (base : Int) (X : List Nat) (h : 64 < wd) (s : Bool) : good_I (outOff wd base k X s) = false := by
  have h1 : lanesB wd k 5 (restW X) (roomN base) = false := by
    rw [← Bool.not_eq_true]
    intro h2
    have := (lanesB_true h2).1
    omega
  unfold good_I outOff
  simp only [h1, Bool.false_and]

theorem pay_short_I (cd wd k : Nat) (X : List Nat) : good_I (outPay_I cd wd k X true) = false := by
  unfold outPay_I
  split
  · unfold good_I outPlain_I
    simp only [rd_no_I, Bool.false_and]
  split
  · unfold outDict_I
    rw [tkS_true]
    split
    · rfl
    · have hno := rd_no_I (L.wordOf 8 (tk 4 X)) (tkL 4 X)
      generalize rdI (L.wordOf 8 (tk 4 X)) (tkL 4 X) true = q at *
      obtain ⟨vals, ok, xl, s1⟩ := q
      simp only at hno ⊢
      subst hno
      rfl
  split
  · unfold outRuns_I
    rw [tkS_true, tkS_true]
    split
    · rfl
    · have hno := rd_no_I (L.wordOf 8 (tk 4 X)) (tkL (4 * L.wordOf 8 (tk 4 X)) (tkL 4 X))
      generalize rdI (L.wordOf 8 (tk 4 X)) (tkL (4 * L.wordOf 8 (tk 4 X)) (tkL 4 X)) true = q at *
      obtain ⟨vals, ok, xl, s1⟩ := q
      simp only at hno ⊢
      subst hno
      rfl
  split
  · rw [tkS_true]; exact off_short _ _ _ _
  · exact off_short _ _ _ _
/-- the head of a body that is long enough -/
theorem head_eq (rows : Nat) (xs : List Nat) (h : numsOk 8 (rN rows) 2 xs.length = true) :
    (headOf rows xs).codec = xs.getD 0 0 ∧ (headOf rows xs).wd = xs.getD 1 0 ∧ (headOf rows xs).nulls = rWs rows xs ∧ (headOf rows xs).left = xs.drop (2 + 8 * rN rows) ∧ (headOf rows xs).short = false := by
  unfold numsOk at h
  rw [decide_eq_true_eq] at h
  obtain ⟨a, b, t, rfl⟩ : ∃ a b t, xs = a :: b :: t := by
    match xs, h.1 with
    | a :: b :: t, _ => exact ⟨a, b, t, rfl⟩
  have h2 : 8 * rN rows ≤ t.length := by have := h.2; simpa using this
  have e1 : tk 1 (a :: b :: t) = [a] := by simp [tk]
  have e2 : tkL 1 (a :: b :: t) = b :: t := by simp [tkL]
  have e3 : tk 1 (b :: t) = [b] := by simp [tk]
  have e4 : tkL 1 (b :: t) = t := by simp [tkL]
  have e5 : tkS 1 (a :: b :: t) false = false := by simp [tkS]
  have e6 : tkS 1 (b :: t) false = false := by simp [tkS]
  unfold headOf
  simp only [e1, e2, e3, e4, e5, e6]
  refine ⟨by simp [L.wordOf], by simp [L.wordOf], rfl, ?_, ?_⟩
  · unfold tkL; rw [show (rows + 63) / 64 = rN rows from rfl, if_pos h2]
    rw [show 2 + 8 * rN rows = 8 * rN rows + 1 + 1 by omega, List.drop_succ_cons, List.drop_succ_cons]
  · unfold tkS; rw [show (rows + 63) / 64 = rN rows from rfl, if_pos h2]
theorem head_no (rows : Nat) (xs : List Nat) (h : numsOk 8 (rN rows) 2 xs.length = false) : (headOf rows xs).short = true := by
  unfold numsOk at h
  rw [decide_eq_false_iff_not] at h
  unfold headOf
  simp only
  match xs with
  | [] => simp [tkS, tkL]
  | [a] => simp [tkS, tkL]
  | a :: b :: t =>
    have e2 : tkL 1 (a :: b :: t) = b :: t := by simp [tkL]
    have e4 : tkL 1 (b :: t) = t := by simp [tkL]
    rw [e2, e4]
    have h2 : ¬ 8 * rN rows ≤ t.length := by
      intro h3
      exact h ⟨by simp, by simpa using h3⟩
    unfold tkS
    rw [show (rows + 63) / 64 = rN rows from rfl, if_neg h2]
end Go.Proofs.YtdlkdiaobbakiaaGreatDoor

/- Package codec: Gather. -/
set_option linter.unusedVariables false
set_option linter.unusedSimpArgs false
set_option linter.unnecessarySimpa false
set_option maxRecDepth 100000
namespace Go.Proofs.YtdlkdiaobbakiaaGreatDoor
open Go.RowKit

/-- what Gather answers: code, cells, how many -/
def gatCode (k rows : Int) (xs : List Nat) (ps : List Int) : Int :=
  if (isKind k && isRows rows && arePl ps rows) = true then (if k = 2 then (if lkOk_S rows.toNat xs = true then 0 else 1) else (if lkOk_I rows.toNat xs = true then 0 else 1)) else 5
def gatCells (k rows : Int) (xs : List Nat) (ps : List Int) : List Value := if gatCode k rows xs ps = 0 then (if k = 2 then gathL_S rows.toNat xs ps else gathL_I rows.toNat xs ps) else []
def gatLen (k rows : Int) (xs : List Nat) (ps : List Int) : Nat := if gatCode k rows xs ps = 0 then ps.length else 0
set_option maxHeartbeats 8000000 in
theorem Gather_any (w : World) (v u : Value) (xs : List Nat) (ps : List Int) (k rows : Int) (hT : Tab w) (hv : Rd w v xs.length 1 (u8s xs)) (hu : Rd w u ps.length 1 (i64s ps)) (hb : ∀ x ∈ xs, x < 256) (hl : xs.length ≤ 16777216) (hpl : ps.length ≤ 16777216)
    (hvI : ∀ rows, lkOk_I rows xs = true → rows ≤ 65536 → Valid_I rows xs) (hvS : ∀ rows, lkOk_S rows xs = true → rows ≤ 65536 → Valid_S rows xs) :
    Calls Tryz.prog 10 #[.int .i64 k, .int .i64 rows, v, u] w fun e w' => Below w.heap.size w w' ∧ ∃ t, e = .returned (.tuple #[t, .int .i64 (gatCode k rows xs ps)]) ∧ Rd w' t (gatLen k rows xs ps) 3 (gatCells k rows xs ps) := by
  have HK := hid (fun w2 : World => IsKind_any k w2)
  have HR := hid (fun w2 : World => IsRows_any rows w2)
  have HP := hid (fun w2 : World => fun hr : Rd w2 u ps.length 1 (i64s ps) => arePlaces_any u ps rows w2 hr hpl)
  by_cases hg : (isKind k && isRows rows && arePl ps rows) = true
  · have hk : isKind k = true := by simp only [Bool.and_eq_true] at hg; exact hg.1.1
    have hr : isRows rows = true := by simp only [Bool.and_eq_true] at hg; exact hg.1.2
    have hp : arePl ps rows = true := by simp only [Bool.and_eq_true] at hg; exact hg.2
    have hr2 : 0 ≤ rows ∧ rows ≤ 65536 := by simpa [isRows] using hr
    obtain ⟨n, rfl⟩ := Int.eq_ofNat_of_zero_le hr2.1
    have hn : n ≤ 65536 := by omega
    have hp2 : ps.length ≤ 65536 ∧ ∀ p ∈ ps, 0 ≤ p ∧ p < (n : Int) := by
      unfold arePl at hp
      simp only [Bool.and_eq_true, decide_eq_true_eq, List.all_eq_true] at hp
      exact hp
    rw [hk] at HK
    rw [hr] at HR
    rw [hp] at HP
    have HPw := hid (HP.out w hu)
    by_cases h2 : k = 2
    · subst h2
      have HD := hid (gather_S w v u xs ps n hu hp2.1 hp2.2 hT hv hb hl hn (fun h => hvS n h hn))
      have e1 : gatCode 2 n xs ps = if lkOk_S n xs = true then 0 else 1 := by unfold gatCode; rw [if_pos hg, if_pos rfl]; simp
      have e2 : gatCells 2 n xs ps = if gatCode 2 n xs ps = 0 then gathL_S n xs ps else [] := by unfold gatCells; simp
      have e3 : gatLen 2 n xs ps = if gatCode 2 n xs ps = 0 then ps.length else 0 := by unfold gatLen; simp
      rw [e2, e3, e1]
      have hlen : (gathL_S n xs ps).length = ps.length * 3 := by unfold gathL_S; rw [cellsUp_length]
      have hpn := hp2.1
      obtain ⟨A0, c0, rfl, _, _, _⟩ := hv.form
      obtain ⟨A1, c1, rfl, _, _, _⟩ := hu.form
      generalize gathL_S n xs ps = R at *
      generalize lkOk_S n xs = OK at *
      clear hT hv hu e1 e2 e3 hvI hvS hg hk hr hp HP hp2
      go_enter Tryz.func10, Tryz.ntmps10
      go_wp2_with (first | (go_at_call 18; refine (HK.out _).mono ?_; rintro e w1 ⟨rfl, hw⟩; replace hw := hw.symm; subst hw) | (go_at_call 19; refine (HR.out _).mono ?_; rintro e w1 ⟨rfl, hw⟩; replace hw := hw.symm; subst hw) | (go_at_call 28; refine HPw.out.mono ?_; rintro e w1 ⟨rfl, hw⟩; replace hw := hw.symm; subst hw))
      refine HD.out.mono ?_
      rintro e w1 ⟨hb1, ⟨rfl, rfl⟩ | ⟨rfl, p, hp, rfl, hrow⟩⟩
      · have HB1 := hid hb1
        clear hb1
        go_wp2_with fail
        go_ret2
        exact ⟨HB1.out, _, rfl, ⟨rfl, .inl ⟨⟨_, rfl⟩, rfl⟩⟩⟩
      · have HB1 := hid hb1
        have HRD := hid (cells_rd hrow hlen hpn)
        clear hb1 hrow
        go_wp2_with fail
        go_ret2
        exact ⟨HB1.out, _, rfl, HRD.out⟩
    · have h1 : k = 1 := by simp [isKind] at hk; omega
      subst h1
      have HD := hid (gather_I w v u xs ps n hu hp2.1 hp2.2 hT hv hb hl hn (fun h => hvI n h hn))
      have e1 : gatCode 1 n xs ps = if lkOk_I n xs = true then 0 else 1 := by unfold gatCode; rw [if_pos hg, if_neg (by decide)]; simp
      have e2 : gatCells 1 n xs ps = if gatCode 1 n xs ps = 0 then gathL_I n xs ps else [] := by unfold gatCells; simp
      have e3 : gatLen 1 n xs ps = if gatCode 1 n xs ps = 0 then ps.length else 0 := by unfold gatLen; simp
      rw [e2, e3, e1]
      have hlen : (gathL_I n xs ps).length = ps.length * 3 := by unfold gathL_I; rw [cellsUp_length]
      have hpn := hp2.1
      obtain ⟨A0, c0, rfl, _, _, _⟩ := hv.form
      obtain ⟨A1, c1, rfl, _, _, _⟩ := hu.form
      generalize gathL_I n xs ps = R at *
      generalize lkOk_I n xs = OK at *
      clear hT hv hu e1 e2 e3 hvI hvS hg hk hr hp HP hp2
      go_enter Tryz.func10, Tryz.ntmps10
      go_wp2_with (first | (go_at_call 18; refine (HK.out _).mono ?_; rintro e w1 ⟨rfl, hw⟩; replace hw := hw.symm; subst hw) | (go_at_call 19; refine (HR.out _).mono ?_; rintro e w1 ⟨rfl, hw⟩; replace hw := hw.symm; subst hw) | (go_at_call 28; refine HPw.out.mono ?_; rintro e w1 ⟨rfl, hw⟩; replace hw := hw.symm; subst hw))
      refine HD.out.mono ?_
      rintro e w1 ⟨hb1, ⟨rfl, rfl⟩ | ⟨rfl, p, hp, rfl, hrow⟩⟩
      · have HB1 := hid hb1
        clear hb1
        go_wp2_with fail
        go_ret2
        exact ⟨HB1.out, _, rfl, ⟨rfl, .inl ⟨⟨_, rfl⟩, rfl⟩⟩⟩
      · have HB1 := hid hb1
        have HRD := hid (cells_rd hrow hlen hpn)
        clear hb1 hrow
        go_wp2_with fail
        go_ret2
        exact ⟨HB1.out, _, rfl, HRD.out⟩
  · have e1 : gatCode k rows xs ps = 5 := by unfold gatCode; rw [if_neg hg]
    have e2 : gatCells k rows xs ps = [] := by unfold gatCells; rw [e1, if_neg (by decide)]
    have e3 : gatLen k rows xs ps = 0 := by unfold gatLen; rw [e1, if_neg (by decide)]
    rw [e1, e2, e3]
    have HPw := hid (HP.out w hu)
    obtain ⟨A0, c0, rfl, _, _, _⟩ := hv.form
    obtain ⟨A1, c1, rfl, _, _, _⟩ := hu.form
    clear hT hv hu e1 e2 e3 hvI hvS HP
    generalize isKind k = bk at *
    generalize isRows rows = br at *
    generalize arePl ps rows = bp at *
    go_enter Tryz.func10, Tryz.ntmps10
    cases bk
    case' false => go_wp2_with (go_at_call 18; refine (HK.out _).mono ?_; rintro e w1 ⟨rfl, hw⟩; replace hw := hw.symm; subst hw)
    case' true =>
      cases br
      case' false => go_wp2_with (first | (go_at_call 18; refine (HK.out _).mono ?_; rintro e w1 ⟨rfl, hw⟩; replace hw := hw.symm; subst hw) | (go_at_call 19; refine (HR.out _).mono ?_; rintro e w1 ⟨rfl, hw⟩; replace hw := hw.symm; subst hw))
      case' true =>
        obtain rfl : bp = false := by simpa using hg
        go_wp2_with (first | (go_at_call 18; refine (HK.out _).mono ?_; rintro e w1 ⟨rfl, hw⟩; replace hw := hw.symm; subst hw) | (go_at_call 19; refine (HR.out _).mono ?_; rintro e w1 ⟨rfl, hw⟩; replace hw := hw.symm; subst hw) | (go_at_call 28; refine HPw.out.mono ?_; rintro e w1 ⟨rfl, hw⟩; replace hw := hw.symm; subst hw))
    all_goals go_ret2
    all_goals exact ⟨brefl w, _, rfl, ⟨rfl, .inl ⟨⟨_, rfl⟩, rfl⟩⟩⟩
end Go.Proofs.YtdlkdiaobbakiaaGreatDoor
