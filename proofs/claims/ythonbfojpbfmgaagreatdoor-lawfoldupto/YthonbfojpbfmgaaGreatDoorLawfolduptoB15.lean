/- The code's answer and the plain answer meet: plain lists, dictionaries, runs. -/
import Derived.Test.YthonbfojpbfmgaaGreatDoorLawfolduptoB14
import Derived.Test.YthonbfojpbfmgaaGreatDoorLawfolduptoB13
set_option linter.unusedVariables false
set_option linter.unusedSimpArgs false
set_option linter.unnecessarySimpa false
set_option maxRecDepth 20000
namespace Go.Proofs.YthonbfojpbfmgaaGreatDoor
open Go.RowKit

def good_S (O : Out_S) : Bool := O.b && (!O.short && decide (O.left = []))
theorem plain_meet_S (wd k P : Nat) (xs : List Nat) (hP : P ≤ xs.length) :
    good_S (outPlain_S wd k (xs.drop P) false) = (listOk kN_S k P xs && decide (listNx kN_S k P xs = xs.length) && decide (wd = 0)) ∧
    (listOk kN_S k P xs = true → (outPlain_S wd k (xs.drop P) false).list.map pK_S = listP kN_S k P xs) := by
  obtain ⟨h1, h2⟩ := rdK_S k P xs hP
  unfold good_S outPlain_S
  generalize rdS k (xs.drop P) false = q at *
  obtain ⟨vals, ok, xl, s1⟩ := q
  simp only at h1 h2 ⊢
  subst h1
  refine ⟨?_, fun h => (h2 h).1⟩
  cases ho : listOk kN_S k P xs
  · simp
  · obtain ⟨h3, h4, h5, h6⟩ := h2 ho
    rw [h5, h4, drop_nil _ _ h6]
    have hw : decide ((wd : Int) = 0) = decide (wd = 0) := by by_cases h : wd = 0 <;> simp [h]
    rw [hw]
    generalize decide (wd = 0) = a
    generalize decide (listNx kN_S k P xs = xs.length) = b
    cases a <;> cases b <;> rfl
theorem dict_meet_S (wd k P : Nat) (xs : List Nat) (hP : P ≤ xs.length) (hk : k ≤ 65536) :
    good_S (outDict_S wd k (xs.drop P) false) = ((dictR kN_S wd k P xs).1 && decide ((dictR kN_S wd k P xs).2.length = k)) ∧
    ((dictR kN_S wd k P xs).1 = true → ∀ j, j < k → (dictR kN_S wd k P xs).2.getD j dfP = pK_S ((outDict_S wd k (xs.drop P) false).list.getD (L.laneOf wd (outDict_S wd k (xs.drop P) false).lanes j) dfS)) := by
  by_cases h4 : 4 ≤ xs.length - P
  rotate_left
  · have e1 : dictR kN_S wd k P xs = (false, []) := by
      unfold dictR; rw [if_pos (.inl (by unfold numOk; exact decide_eq_false (by omega)))]
    have e2 : (outDict_S wd k (xs.drop P) false).b = false := by
      have e3 : tk 4 (xs.drop P) = [] := by unfold tk; rw [dl, if_neg h4]
      have e4 : tkS 4 (xs.drop P) false = true := by unfold tkS; rw [dl, if_neg h4]
      unfold outDict_S
      rw [e3, e4]
      split
      · rfl
      · have hno := rd_no_S (L.wordOf 8 []) (tkL 4 (xs.drop P))
        generalize rdS (L.wordOf 8 []) (tkL 4 (xs.drop P)) true = q at *
        obtain ⟨vals, ok, xl, s1⟩ := q
        simp only at hno ⊢
        subst hno
        rfl
    rw [e1]
    refine ⟨?_, fun h => by cases h⟩
    unfold good_S; rw [e2]; rfl
  have e3 : tk 4 (xs.drop P) = (xs.drop P).take 4 := by unfold tk; rw [dl, if_pos h4]
  have e4 : tkS 4 (xs.drop P) false = false := by unfold tkS; rw [dl, if_pos h4]
  have e5 : tkL 4 (xs.drop P) = xs.drop (P + 4) := by unfold tkL; rw [dl, if_pos h4, List.drop_drop]
  have hno : numOk 4 P xs.length = true := by unfold numOk; exact decide_eq_true ⟨hP, h4⟩
  have hdn : dN P xs = L.wordOf 8 ((xs.drop P).take 4) := by unfold dN; rw [if_pos hno]
  unfold outDict_S dictR
  rw [e3, e4, e5, hno, hdn]
  generalize L.wordOf 8 ((xs.drop P).take 4) = d
  have hgg : (256 < d ∨ (wd : Int) ≠ (needN d : Int)) ↔ (256 < d ∨ wd ≠ needN d) := by omega
  by_cases hg : 256 < d ∨ wd ≠ needN d
  · rw [if_pos (hgg.2 hg), if_pos (.inr hg)]
    exact ⟨rfl, fun h => by cases h⟩
  rw [if_neg (fun h => hg (hgg.1 h)), if_neg (fun h => h.elim (fun h => by cases h) hg)]
  obtain ⟨h1, h2⟩ := rdK_S d (P + 4) xs (by omega)
  generalize rdS d (xs.drop (P + 4)) false = q at *
  obtain ⟨vals, ok, xl, s1⟩ := q
  simp only at h1 h2 ⊢
  subst h1
  cases ho : listOk kN_S d (P + 4) xs
  · simp only [Bool.false_and, Bool.false_eq_true, if_false, true_or, if_true]
    exact ⟨by simp [good_S], fun h => by cases h⟩
  obtain ⟨h3, h5, h6, h7⟩ := h2 ho
  have hll := listP_len kN_S d (P + 4) xs ho kN_or_S
  rw [← h3, List.length_map] at hll
  rw [← h3, noP_ge_S, h5, h6]
  cases hnp : noPair geS vals
  · simp only [Bool.and_false, Bool.false_eq_true, if_false, or_true, if_true]
    exact ⟨by simp [good_S], fun h => by cases h⟩
  generalize listNx kN_S d (P + 4) xs = nx at *
  simp only [Bool.and_self, if_true, Bool.true_eq_false, or_self, if_false]
  obtain ⟨m1, m2⟩ := restW_mod (xs.drop nx)
  have hlk : lanesOk wd k nx xs = (decide ((xs.drop nx).length % 8 = 0) && okPack wd k (restW (xs.drop nx))) := by
    unfold lanesOk
    rw [dl]
    congr 1
    by_cases h : (xs.length - nx) % 8 = 0
    · rw [decide_eq_true h, decide_eq_true ⟨h7, h⟩]
    · rw [decide_eq_false h, decide_eq_false (fun h2 => h h2.2)]
  have hlb := lanesB_iff wd k 6 (restW (xs.drop nx)) d (by decide) hk
  have hst : ∀ j, standsB 6 (L.laneOf wd (restW (xs.drop nx)) j) d = decide (d ≤ L.laneOf wd (restW (xs.drop nx)) j) := fun j => rfl
  unfold good_S
  simp only [m1, m2]
  cases hkk : lanesOk wd k nx xs
  · have hv : lanesV wd k nx xs = [] := by unfold lanesV; rw [hkk]; simp
    rw [hv]
    refine ⟨?_, fun h => ?_⟩
    · have hf : ¬ (lanesB wd k 6 (restW (xs.drop nx)) d = true ∧ (xs.drop nx).length % 8 = 0) := by
        rintro ⟨a, b⟩
        rw [hlk, decide_eq_true b, (hlb.1 a).1] at hkk
        cases hkk
      simp only [List.all_nil, Bool.true_eq_false, if_false, Bool.false_and, Bool.not_false, Bool.true_and]
      rw [Bool.and_eq_false_iff]
      by_cases ha : lanesB wd k 6 (restW (xs.drop nx)) d = true
      · exact .inr (decide_eq_false (fun hb => hf ⟨ha, hb⟩))
      · exact .inl (by simpa using ha)
    · simp at h
  · have hv : lanesV wd k nx xs = L.lanesL wd k (restW (xs.drop nx)) := by unfold lanesV; rw [hkk, if_pos rfl]
    rw [hlk, Bool.and_eq_true, decide_eq_true_eq] at hkk
    rw [hv]
    have hall : ((L.lanesL wd k (restW (xs.drop nx))).all fun c => decide (c < d)) = lanesB wd k 6 (restW (xs.drop nx)) d := by
      rw [Bool.eq_iff_iff, hlb, List.all_eq_true]
      constructor
      · intro h
        refine ⟨hkk.2, fun j hj => ?_⟩
        rw [hst, decide_eq_false_iff_not]
        have := h (L.laneOf wd (restW (xs.drop nx)) j) (List.mem_map.2 ⟨j, List.mem_range.2 hj, rfl⟩)
        rw [decide_eq_true_eq] at this
        omega
      · rintro ⟨_, h⟩ x hx
        obtain ⟨j, hj, rfl⟩ := List.mem_map.1 hx
        have := h j (List.mem_range.1 hj)
        rw [hst, decide_eq_false_iff_not] at this
        rw [decide_eq_true_eq]
        omega
    rw [hall]
    cases hb : lanesB wd k 6 (restW (xs.drop nx)) d
    · simp only [if_true]
      exact ⟨rfl, fun h => by cases h⟩
    · simp only [Bool.true_eq_false, if_false]
      refine ⟨?_, fun _ j hj => ?_⟩
      · have h8 := hkk.1
        rw [dl] at h8
        simp [h8, L.lanesL_length]
      · have hlt : L.laneOf wd (restW (xs.drop nx)) j < vals.length := by
          have := (hlb.1 hb).2 j hj
          rw [hst, decide_eq_false_iff_not] at this
          omega
        rw [map_getD (fun c => (vals.map pK_S).getD c dfP) (L.lanesL wd k (restW (xs.drop nx))) j 0 dfP (by rw [L.lanesL_length]; exact hj), L.lanesL_get _ _ _ _ hj, map_getD pK_S vals _ dfS dfP hlt]
theorem runs_meet_S (wd k P : Nat) (xs : List Nat) (hP : P ≤ xs.length) (hk : k ≤ 65536) :
    good_S (outRuns_S wd k (xs.drop P) false) = ((runsR kN_S k P xs).1 && decide (wd = 0) && decide ((runsR kN_S k P xs).2.length = k)) ∧
    ((runsR kN_S k P xs).1 = true → decide (wd = 0) = true → ∀ j, j < k → (runsR kN_S k P xs).2.getD j dfP = pK_S ((outRuns_S wd k (xs.drop P) false).list.getD (firstGe (nI (outRuns_S wd k (xs.drop P) false).ends) ((j : Int) + 1)) dfS)) := by
  have hno0 : ∀ (c : Nat) (X : List Nat) (E : List Nat) (b : Bool) (r : Out_S), (if (wd : Int) ≠ 0 ∨ b = false then ({ b := false, left := r.left, short := r.short, list := [], ends := E, lanes := [] } : Out_S) else match rdS c X true with
      | (vals, ok, xl, s3) => { b := ok && noPair eqS vals, left := xl, short := s3, list := vals, ends := E, lanes := [] }).b = false := by
    intro c X E b r
    split
    · rfl
    · have hno := rd_no_S c X
      generalize rdS c X true = q at *
      obtain ⟨vals, ok, xl, s1⟩ := q
      simp only at hno ⊢
      subst hno
      rfl
  by_cases h4 : 4 ≤ xs.length - P
  rotate_left
  · have e1 : runsR kN_S k P xs = (false, []) := by
      unfold runsR; rw [if_pos (.inl (by unfold numOk; exact decide_eq_false (by omega)))]
    have e2 : (outRuns_S wd k (xs.drop P) false).b = false := by
      have e4 : tkS 4 (xs.drop P) false = true := by unfold tkS; rw [dl, if_neg h4]
      unfold outRuns_S
      rw [e4, tkS_true]
      exact hno0 _ _ _ _ ⟨false, _, _, [], [], []⟩
    rw [e1]
    refine ⟨?_, fun h => by cases h⟩
    unfold good_S; rw [e2]; rfl
  have e3 : tk 4 (xs.drop P) = (xs.drop P).take 4 := by unfold tk; rw [dl, if_pos h4]
  have e4 : tkS 4 (xs.drop P) false = false := by unfold tkS; rw [dl, if_pos h4]
  have e5 : tkL 4 (xs.drop P) = xs.drop (P + 4) := by unfold tkL; rw [dl, if_pos h4, List.drop_drop]
  have hno : numOk 4 P xs.length = true := by unfold numOk; exact decide_eq_true ⟨hP, h4⟩
  have hdn : dN P xs = L.wordOf 8 ((xs.drop P).take 4) := by unfold dN; rw [if_pos hno]
  unfold outRuns_S runsR
  rw [e3, e4, e5, hno, hdn]
  generalize L.wordOf 8 ((xs.drop P).take 4) = c
  by_cases hn : 4 * c ≤ xs.length - (P + 4)
  rotate_left
  · have t2 : tkS (4 * c) (xs.drop (P + 4)) false = true := by unfold tkS; rw [dl, if_neg hn]
    have hns : numsOk 4 c (P + 4) xs.length = false := by unfold numsOk; exact decide_eq_false (by omega)
    rw [t2, hns]
    have hr : (if true = false ∨ k < c then ((false, []) : Bool × List PV) else if false = false then (false, [])
        else if listOk kN_S c (P + 4 + 4 * c) xs = false ∨ ¬ listNx kN_S c (P + 4 + 4 * c) xs = xs.length then (false, [])
        else if noPair eqP (listP kN_S c (P + 4 + 4 * c) xs) = false ∨ runEnds (nI (numL 4 (tk (4 * c) (xs.drop (P + 4))))) k = false then (false, [])
        else (true, fillP (listP kN_S c (P + 4 + 4 * c) xs) (numL 4 (tk (4 * c) (xs.drop (P + 4)))) c)) = (false, []) := by
      split
      · rfl
      · rfl
    rw [hr]
    refine ⟨?_, fun h => by cases h⟩
    unfold good_S
    rw [hno0 c _ _ _ ⟨false, _, _, [], [], []⟩]
    rfl
  have t2 : tkS (4 * c) (xs.drop (P + 4)) false = false := by unfold tkS; rw [dl, if_pos hn]
  have t3 : tkL (4 * c) (xs.drop (P + 4)) = xs.drop (P + 4 + 4 * c) := by unfold tkL; rw [dl, if_pos hn, List.drop_drop]
  have hns : numsOk 4 c (P + 4) xs.length = true := by unfold numsOk; exact decide_eq_true ⟨by omega, hn⟩
  have hel := ends_len c (P + 4) xs hns
  rw [t2, t3, hns]
  generalize numL 4 (tk (4 * c) (xs.drop (P + 4))) = E at *
  obtain ⟨re, hre⟩ : ∃ re, runEnds (nI E) k = re := ⟨_, rfl⟩
  rw [hre]
  by_cases hkc : k < c
  · have hf : re = false := by
      rw [← hre, ← Bool.not_eq_true]
      intro h
      have h1 : endsUp 0 (nI E) = some (k : Int) := by simpa [runEnds] using h
      have := endsUp_len _ _ _ h1
      rw [nI_length] at this
      omega
    subst hf
    rw [if_pos (.inr rfl), if_pos (.inr hkc)]
    exact ⟨rfl, fun h => by cases h⟩
  rw [if_neg (c := true = false ∨ k < c) (fun h => h.elim (fun h => by cases h) hkc)]
  simp only [Bool.true_eq_false, if_false]
  cases re
  · rw [if_pos (.inr rfl)]
    have hr : ∀ (p : Prop) [Decidable p] (q : Prop) [Decidable q] (hq : q) (x : List PV), (if p then ((false, []) : Bool × List PV) else if q then (false, []) else (true, x)) = (false, []) := by
      intro p _ q _ hq x
      split
      · rfl
      · rfl
    rw [hr _ _ (.inr rfl)]
    exact ⟨rfl, fun h => by cases h⟩
  by_cases hw : wd = 0
  rotate_left
  · rw [if_pos (.inl (by omega))]
    rw [decide_eq_false hw, Bool.and_false, Bool.false_and]
    exact ⟨rfl, fun _ h => by cases h⟩
  rw [if_neg (by simp; omega), decide_eq_true hw, Bool.and_true]
  have hke : endsUp 0 (nI E) = some (k : Int) := by simpa [runEnds] using hre
  obtain ⟨h1, h2⟩ := rdK_S c (P + 4 + 4 * c) xs (by omega)
  have hll := fun ho => listP_len kN_S c (P + 4 + 4 * c) xs ho kN_or_S
  generalize rdS c (xs.drop (P + 4 + 4 * c)) false = q at *
  obtain ⟨vals, ok, xl, s1⟩ := q
  simp only at h1 h2 ⊢
  subst h1
  cases ho : listOk kN_S c (P + 4 + 4 * c) xs
  · simp only [Bool.false_and, true_or, if_true]
    exact ⟨rfl, fun h => by cases h⟩
  obtain ⟨h3, h5, h6, h7⟩ := h2 ho
  have hvl := hll ho
  rw [← h3, List.length_map] at hvl
  rw [← h3, noP_eq_S, h5, h6]
  by_cases hx : listNx kN_S c (P + 4 + 4 * c) xs = xs.length
  rotate_left
  · rw [if_pos (.inr hx)]
    refine ⟨?_, fun h => by cases h⟩
    unfold good_S
    simp only
    rw [drop_nil _ _ h7, decide_eq_false hx]
    simp
  rw [if_neg (c := true = false ∨ ¬ listNx kN_S c (P + 4 + 4 * c) xs = xs.length) (fun h => h.elim (fun h => by cases h) (fun h => h hx))]
  cases hnp : noPair eqS vals
  · simp only [true_or, if_true]
    exact ⟨rfl, fun h => by cases h⟩
  simp only [Bool.true_eq_false, or_self, if_false]
  have htk : E.take c = E := by rw [← hel, List.take_length]
  have hfl := fillP_len (vals.map pK_S) E c k (by omega) (by rw [htk]; exact hke)
  refine ⟨?_, fun _ _ j hj => ?_⟩
  · unfold good_S
    simp only
    rw [drop_nil _ _ h7, decide_eq_true hx, hfl]
    simp
  · rw [fillP_get (vals.map pK_S) E c k (by omega) (by rw [htk]; exact hke) j hj, map_getD pK_S vals _ dfS dfP]
    have := firstGe_lt hre ((j : Int) + 1) (by omega) (by omega)
    rw [nI_length] at this
    omega
end Go.Proofs.YthonbfojpbfmgaaGreatDoor

/- The code's answer and the plain answer meet: frames, the head of a body, readers that are short. -/
set_option linter.unusedVariables false
set_option linter.unusedSimpArgs false
set_option linter.unnecessarySimpa false
set_option maxRecDepth 20000
namespace Go.Proofs.YthonbfojpbfmgaaGreatDoor
open Go.RowKit

theorem val_vsum (base : Int) (x : Nat) : val45 base x = vsum base x := by
  unfold val45 vsum wrap64
  rw [IntKind.wrap_i64, IntKind.wrap_i64, IntKind.wrap_u64, IntKind.wrap_u64]
  omega
theorem lanesOk_eq (wd k p : Nat) (xs : List Nat) (hp : p ≤ xs.length) : lanesOk wd k p xs = (decide ((xs.drop p).length % 8 = 0) && okPack wd k (restW (xs.drop p))) := by
  unfold lanesOk
  rw [dl]
  congr 1
  by_cases h : (xs.length - p) % 8 = 0
  · rw [decide_eq_true h, decide_eq_true ⟨hp, h⟩]
  · rw [decide_eq_false h, decide_eq_false (fun h2 => h h2.2)]
theorem off_meet (wd k p : Nat) (base : Int) (xs : List Nat) (hp : p ≤ xs.length) (hk : k ≤ 65536) :
    good_I (outOff wd base k (xs.drop p) false) = ((fits base (lanesV wd k p xs) && lanesOk wd k p xs) && decide (((sumsL base (lanesV wd k p xs)).map pI).length = k)) ∧
    ((fits base (lanesV wd k p xs) && lanesOk wd k p xs) = true → ∀ j, j < k → ((sumsL base (lanesV wd k p xs)).map pI).getD j dfP = pK_I (val45 base (L.laneOf wd (restW (xs.drop p)) j))) := by
  obtain ⟨m1, m2⟩ := restW_mod (xs.drop p)
  have hlk := lanesOk_eq wd k p xs hp
  have hlb := lanesB_iff wd k 5 (restW (xs.drop p)) (roomN base) (by decide) hk
  have hst : ∀ j, standsB 5 (L.laneOf wd (restW (xs.drop p)) j) (roomN base) = decide (roomN base < L.laneOf wd (restW (xs.drop p)) j) := fun j => rfl
  unfold good_I outOff
  simp only [m1, m2]
  cases hkk : lanesOk wd k p xs
  · rw [Bool.and_false, Bool.false_and]
    refine ⟨?_, fun h => by cases h⟩
    have hf : ¬ (lanesB wd k 5 (restW (xs.drop p)) (roomN base) = true ∧ (xs.drop p).length % 8 = 0) := by
      rintro ⟨a, b⟩
      rw [hlk, decide_eq_true b, (hlb.1 a).1] at hkk
      cases hkk
    simp only [Bool.not_false, Bool.true_and]
    rw [Bool.and_eq_false_iff]
    by_cases ha : lanesB wd k 5 (restW (xs.drop p)) (roomN base) = true
    · exact .inr (decide_eq_false (fun hb => hf ⟨ha, hb⟩))
    · exact .inl (by simpa using ha)
  · have hv : lanesV wd k p xs = L.lanesL wd k (restW (xs.drop p)) := by unfold lanesV; rw [hkk, if_pos rfl]
    rw [hlk, Bool.and_eq_true, decide_eq_true_eq] at hkk
    rw [hv]
    have hall : fits base (L.lanesL wd k (restW (xs.drop p))) = lanesB wd k 5 (restW (xs.drop p)) (roomN base) := by
      unfold fits
      rw [Bool.eq_iff_iff, hlb, List.all_eq_true]
      constructor
      · intro h
        refine ⟨hkk.2, fun j hj => ?_⟩
        rw [hst, decide_eq_false_iff_not]
        have := h (L.laneOf wd (restW (xs.drop p)) j) (List.mem_map.2 ⟨j, List.mem_range.2 hj, rfl⟩)
        rw [decide_eq_true_eq] at this
        omega
      · rintro ⟨_, h⟩ x hx
        obtain ⟨j, hj, rfl⟩ := List.mem_map.1 hx
        have := h j (List.mem_range.1 hj)
        rw [hst, decide_eq_false_iff_not] at this
        rw [decide_eq_true_eq]
        omega
    have hsl : lanesB wd k 5 (restW (xs.drop p)) (roomN base) = true → sumsL base (L.lanesL wd k (restW (xs.drop p))) = (L.lanesL wd k (restW (xs.drop p))).map (vsum base) := fun h => by
      unfold sumsL; rw [hall, h, if_pos rfl]
    rw [hall]
    cases hb : lanesB wd k 5 (restW (xs.drop p)) (roomN base)
    · exact ⟨rfl, fun h => by cases h⟩
    · rw [hsl hb]
      refine ⟨?_, fun _ j hj => ?_⟩
      · rw [List.length_map, List.length_map, L.lanesL_length, decide_eq_true hkk.1, decide_eq_true rfl]; rfl
      · rw [List.map_map, map_getD (pI ∘ vsum base) (L.lanesL wd k (restW (xs.drop p))) j 0 dfP (by rw [L.lanesL_length]; exact hj), L.lanesL_get _ _ _ _ hj, val_vsum]
        rfl
theorem off_short (wd k : Nat) (base : Int) (X : List Nat) : good_I (outOff wd base k X true) = false := by
  unfold good_I outOff
  simp only [tkS_true, Bool.not_true, Bool.false_and, Bool.and_false]
theorem off_wide (wd k : Nat) (base : Int) (X : List Nat) (h : 64 < wd) (s : Bool) : good_I (outOff wd base k X s) = false := by
  have h1 : lanesB wd k 5 (restW X) (roomN base) = false := by
    rw [← Bool.not_eq_true]
    intro h2
    have := (lanesB_true h2).1
    omega
  unfold good_I outOff
  simp only [h1, Bool.false_and]

theorem pay_short_I (cd wd k : Nat) (X : List Nat) : good_I (outPay_I cd wd k X true) = false := by
  unfold outPay_I
  split
  · unfold good_I outPlain_I
    simp only [rd_no_I, Bool.false_and]
  split
  · unfold outDict_I
    rw [tkS_true]
    split
    · rfl
    · have hno := rd_no_I (L.wordOf 8 (tk 4 X)) (tkL 4 X)
      generalize rdI (L.wordOf 8 (tk 4 X)) (tkL 4 X) true = q at *
      obtain ⟨vals, ok, xl, s1⟩ := q
      simp only at hno ⊢
      subst hno
      rfl
  split
  · unfold outRuns_I
    rw [tkS_true, tkS_true]
    split
    · rfl
    · have hno := rd_no_I (L.wordOf 8 (tk 4 X)) (tkL (4 * L.wordOf 8 (tk 4 X)) (tkL 4 X))
      generalize rdI (L.wordOf 8 (tk 4 X)) (tkL (4 * L.wordOf 8 (tk 4 X)) (tkL 4 X)) true = q at *
      obtain ⟨vals, ok, xl, s1⟩ := q
      simp only at hno ⊢
      subst hno
      rfl
  split
  · rw [tkS_true]; exact off_short _ _ _ _
  · exact off_short _ _ _ _
/-- the head of a body that is long enough -/
theorem head_eq (rows : Nat) (xs : List Nat) (h : numsOk 8 (rN rows) 2 xs.length = true) :
    (headOf rows xs).codec = xs.getD 0 0 ∧ (headOf rows xs).wd = xs.getD 1 0 ∧ (headOf rows xs).nulls = rWs rows xs ∧ (headOf rows xs).left = xs.drop (2 + 8 * rN rows) ∧ (headOf rows xs).short = false := by
  unfold numsOk at h
  rw [decide_eq_true_eq] at h
  obtain ⟨a, b, t, rfl⟩ : ∃ a b t, xs = a :: b :: t := by
    match xs, h.1 with
    | a :: b :: t, _ => exact ⟨a, b, t, rfl⟩
  have h2 : 8 * rN rows ≤ t.length := by have := h.2; simpa using this
  have e1 : tk 1 (a :: b :: t) = [a] := by simp [tk]
  have e2 : tkL 1 (a :: b :: t) = b :: t := by simp [tkL]
  have e3 : tk 1 (b :: t) = [b] := by simp [tk]
  have e4 : tkL 1 (b :: t) = t := by simp [tkL]
  have e5 : tkS 1 (a :: b :: t) false = false := by simp [tkS]
  have e6 : tkS 1 (b :: t) false = false := by simp [tkS]
  unfold headOf
  simp only [e1, e2, e3, e4, e5, e6]
  refine ⟨by simp [L.wordOf], by simp [L.wordOf], rfl, ?_, ?_⟩
  · unfold tkL; rw [show (rows + 63) / 64 = rN rows from rfl, if_pos h2]
    rw [show 2 + 8 * rN rows = 8 * rN rows + 1 + 1 by omega, List.drop_succ_cons, List.drop_succ_cons]
  · unfold tkS; rw [show (rows + 63) / 64 = rN rows from rfl, if_pos h2]
theorem head_no (rows : Nat) (xs : List Nat) (h : numsOk 8 (rN rows) 2 xs.length = false) : (headOf rows xs).short = true := by
  unfold numsOk at h
  rw [decide_eq_false_iff_not] at h
  unfold headOf
  simp only
  match xs with
  | [] => simp [tkS, tkL]
  | [a] => simp [tkS, tkL]
  | a :: b :: t =>
    have e2 : tkL 1 (a :: b :: t) = b :: t := by simp [tkL]
    have e4 : tkL 1 (b :: t) = t := by simp [tkL]
    rw [e2, e4]
    have h2 : ¬ 8 * rN rows ≤ t.length := by
      intro h3
      exact h ⟨by simp, by simpa using h3⟩
    unfold tkS
    rw [show (rows + 63) / 64 = rN rows from rfl, if_neg h2]
end Go.Proofs.YthonbfojpbfmgaaGreatDoor

/- Package codec: Gather. -/
set_option linter.unusedVariables false
set_option linter.unusedSimpArgs false
set_option linter.unnecessarySimpa false
set_option maxRecDepth 100000
namespace Go.Proofs.YthonbfojpbfmgaaGreatDoor
open Go.RowKit

end Go.Proofs.YthonbfojpbfmgaaGreatDoor

/- The code's answer and the plain answer meet: whole bodies. -/
set_option linter.unusedVariables false
set_option linter.unusedSimpArgs false
set_option linter.unnecessarySimpa false
set_option maxRecDepth 20000
namespace Go.Proofs.YthonbfojpbfmgaaGreatDoor
open Go.RowKit

theorem payall_meet_I (cd wd k P : Nat) (xs : List Nat) (hP : P ≤ xs.length) (hk : k ≤ 65536) :
    (isCodec 1 cd && good_I (outPay_I cd wd k (xs.drop P) false)) = ((payR 1 cd wd k P xs).1 && decide ((payR 1 cd wd k P xs).2.length = k)) ∧
    (((payR 1 cd wd k P xs).1 && decide ((payR 1 cd wd k P xs).2.length = k)) = true → ∀ j, j < k → (payR 1 cd wd k P xs).2.getD j dfP =
      pK_I (vl_I cd wd (outPay_I cd wd k (xs.drop P) false).list (outPay_I cd wd k (xs.drop P) false).ends (basePay cd (xs.drop P)) (outPay_I cd wd k (xs.drop P) false).lanes j)) := by
  by_cases h1 : cd = 1
  · subst h1
    obtain ⟨m1, m2⟩ := plain_meet_I wd k P xs hP
    have e1 : payR 1 1 wd k P xs = (listOk 1 k P xs && decide (listNx 1 k P xs = xs.length) && decide (1 = 1) && decide (wd = 0), listP 1 k P xs) := by unfold payR; simp
    have e2 : outPay_I 1 wd k (xs.drop P) false = outPlain_I wd k (xs.drop P) false := by unfold outPay_I; simp
    have hll := fun ho => listP_len 1 k P xs ho (.inl rfl)
    rw [e1, e2, m1]
    refine ⟨?_, fun h j hj => ?_⟩
    · cases ho : listOk 1 k P xs
      · simp [isCodec, isKind]
      · simp [isCodec, isKind, hll ho]
    · simp only [Bool.and_eq_true, decide_eq_true_eq] at h
      have ho := h.1.1.1.1
      have hm := m2 ho
      have hl := hll ho
      rw [show listP kN_I k P xs = listP 1 k P xs from rfl] at hm
      unfold vl_I val_I
      rw [if_neg (by decide), if_pos rfl, ← hm, map_getD pK_I _ j dfI dfP]
      rw [← hm, List.length_map] at hl
      omega
  by_cases h2 : cd = 2
  · subst h2
    obtain ⟨m1, m2⟩ := dict_meet_I wd k P xs hP hk
    have e1 : payR 1 2 wd k P xs = dictR 1 wd k P xs := by unfold payR; simp
    have e2 : outPay_I 2 wd k (xs.drop P) false = outDict_I wd k (xs.drop P) false := by unfold outPay_I; simp
    rw [e1, e2, m1]
    refine ⟨by simp [isCodec, isKind], fun h j hj => ?_⟩
    rw [Bool.and_eq_true] at h
    rw [show dictR 1 wd k P xs = dictR kN_I wd k P xs from rfl, m2 h.1 j hj]
    unfold vl_I val_I
    rw [if_neg (by decide), if_neg (by decide), if_pos rfl]
  by_cases h3 : cd = 3
  · subst h3
    obtain ⟨m1, m2⟩ := runs_meet_I wd k P xs hP hk
    have e1 : payR 1 3 wd k P xs = ((runsR 1 k P xs).1 && decide (wd = 0), (runsR 1 k P xs).2) := by unfold payR; simp
    have e2 : outPay_I 3 wd k (xs.drop P) false = outRuns_I wd k (xs.drop P) false := by unfold outPay_I; simp
    rw [e1, e2, m1]
    refine ⟨by simp [isCodec, isKind], fun h j hj => ?_⟩
    simp only [Bool.and_eq_true] at h
    simp only
    rw [show runsR 1 k P xs = runsR kN_I k P xs from rfl, m2 h.1.1 h.1.2 j hj]
    unfold vl_I val_I
    rw [if_neg (by decide), if_neg (by decide), if_neg (by decide)]
  by_cases h4 : cd = 4
  · subst h4
    have e2 : outPay_I 4 wd k (xs.drop P) false = outOff wd (basePay 4 (xs.drop P)) k (tkL 8 (xs.drop P)) (tkS 8 (xs.drop P) false) := by unfold outPay_I; simp
    have e1 : payR 1 4 wd k P xs = (if numOk 8 P xs.length = false ∨ 64 < wd ∨ ¬ (1 : Nat) = 1 then (false, []) else
        (fits (sgn64 (L.wordOf 8 ((xs.drop P).take 8))) (lanesV wd k (P + 8) xs) && lanesOk wd k (P + 8) xs, (sumsL (sgn64 (L.wordOf 8 ((xs.drop P).take 8))) (lanesV wd k (P + 8) xs)).map pI)) := by unfold payR; simp
    rw [e1, e2]
    by_cases h8 : 8 ≤ xs.length - P
    rotate_left
    · rw [if_pos (.inl (by unfold numOk; exact decide_eq_false (by omega)))]
      have e4 : tkS 8 (xs.drop P) false = true := by unfold tkS; rw [dl, if_neg h8]
      rw [e4, off_short, Bool.and_false]
      exact ⟨rfl, fun h => by cases h⟩
    have hno : numOk 8 P xs.length = true := by unfold numOk; exact decide_eq_true ⟨hP, h8⟩
    have e3 : basePay 4 (xs.drop P) = sgn64 (L.wordOf 8 ((xs.drop P).take 8)) := by unfold basePay tk; rw [if_pos rfl, dl, if_pos h8]
    have e4 : tkS 8 (xs.drop P) false = false := by unfold tkS; rw [dl, if_pos h8]
    have e5 : tkL 8 (xs.drop P) = xs.drop (P + 8) := by unfold tkL; rw [dl, if_pos h8, List.drop_drop]
    by_cases hw : 64 < wd
    · rw [if_pos (.inr (.inl hw)), off_wide _ _ _ _ hw, Bool.and_false]
      exact ⟨rfl, fun h => by cases h⟩
    rw [if_neg (fun h => h.elim (fun h => by rw [hno] at h; cases h) (fun h => h.elim hw (fun h => h rfl))), e3, e4, e5]
    obtain ⟨m1, m2⟩ := off_meet wd k (P + 8) (sgn64 (L.wordOf 8 ((xs.drop P).take 8))) xs (by omega) hk
    rw [m1]
    refine ⟨by simp [isCodec], fun h j hj => ?_⟩
    rw [Bool.and_eq_true] at h
    simp only
    rw [m2 h.1 j hj]
    unfold vl_I
    rw [if_pos (.inl rfl)]
    rfl
  by_cases h5 : cd = 5
  · subst h5
    have e2 : outPay_I 5 wd k (xs.drop P) false = outOff wd 0 k (xs.drop P) false := by unfold outPay_I; simp
    have e1 : payR 1 5 wd k P xs = (if 64 < wd ∨ ¬ (1 : Nat) = 1 then (false, []) else (fits 0 (lanesV wd k P xs) && lanesOk wd k P xs, (sumsL 0 (lanesV wd k P xs)).map pI)) := by unfold payR; simp
    rw [e1, e2]
    have e3 : basePay 5 (xs.drop P) = 0 := by unfold basePay; rw [if_neg (by decide)]
    by_cases hw : 64 < wd
    · rw [if_pos (.inl hw), off_wide _ _ _ _ hw, Bool.and_false]
      exact ⟨rfl, fun h => by cases h⟩
    rw [if_neg (by omega), e3]
    obtain ⟨m1, m2⟩ := off_meet wd k P 0 xs hP hk
    rw [m1]
    refine ⟨by simp [isCodec], fun h j hj => ?_⟩
    rw [Bool.and_eq_true] at h
    simp only
    rw [m2 h.1 j hj]
    unfold vl_I
    rw [if_pos (.inr rfl)]
    rfl
  have e1 : (payR 1 cd wd k P xs).1 = false := by
    unfold payR; rw [if_neg h2, if_neg h3, if_neg h4, if_neg h5]
    simp [h1]
  have e2 : isCodec 1 cd = false := by
    unfold isCodec; rw [if_neg (by omega)]; exact decide_eq_false (by omega)
  rw [e1, e2, Bool.false_and, Bool.false_and]
  exact ⟨rfl, fun h => by cases h⟩
theorem payall_meet_S (cd wd k P : Nat) (xs : List Nat) (hP : P ≤ xs.length) (hk : k ≤ 65536) :
    (isCodec 2 cd && good_S (outPay_S cd wd k (xs.drop P) false)) = ((payR 2 cd wd k P xs).1 && decide ((payR 2 cd wd k P xs).2.length = k)) ∧
    (((payR 2 cd wd k P xs).1 && decide ((payR 2 cd wd k P xs).2.length = k)) = true → ∀ j, j < k → (payR 2 cd wd k P xs).2.getD j dfP =
      pK_S (vl_S cd wd (outPay_S cd wd k (xs.drop P) false).list (outPay_S cd wd k (xs.drop P) false).ends 0 (outPay_S cd wd k (xs.drop P) false).lanes j)) := by
  by_cases h1 : cd = 1
  · subst h1
    obtain ⟨m1, m2⟩ := plain_meet_S wd k P xs hP
    have e1 : payR 2 1 wd k P xs = (listOk 2 k P xs && decide (listNx 2 k P xs = xs.length) && decide (1 = 1) && decide (wd = 0), listP 2 k P xs) := by unfold payR; simp
    have e2 : outPay_S 1 wd k (xs.drop P) false = outPlain_S wd k (xs.drop P) false := by unfold outPay_S; simp
    have hll := fun ho => listP_len 2 k P xs ho (.inr rfl)
    rw [e1, e2, m1]
    refine ⟨?_, fun h j hj => ?_⟩
    · cases ho : listOk 2 k P xs
      · simp [isCodec, isKind]
      · simp [isCodec, isKind, hll ho]
    · simp only [Bool.and_eq_true, decide_eq_true_eq] at h
      have ho := h.1.1.1.1
      have hm := m2 ho
      have hl := hll ho
      rw [show listP kN_S k P xs = listP 2 k P xs from rfl] at hm
      unfold vl_S val_S
      rw [if_pos rfl, ← hm, map_getD pK_S _ j dfS dfP]
      rw [← hm, List.length_map] at hl
      omega
  by_cases h2 : cd = 2
  · subst h2
    obtain ⟨m1, m2⟩ := dict_meet_S wd k P xs hP hk
    have e1 : payR 2 2 wd k P xs = dictR 2 wd k P xs := by unfold payR; simp
    have e2 : outPay_S 2 wd k (xs.drop P) false = outDict_S wd k (xs.drop P) false := by unfold outPay_S; simp
    rw [e1, e2, m1]
    refine ⟨by simp [isCodec, isKind], fun h j hj => ?_⟩
    rw [Bool.and_eq_true] at h
    rw [show dictR 2 wd k P xs = dictR kN_S wd k P xs from rfl, m2 h.1 j hj]
    unfold vl_S val_S
    rw [if_neg (by decide), if_pos rfl]
  by_cases h3 : cd = 3
  · subst h3
    obtain ⟨m1, m2⟩ := runs_meet_S wd k P xs hP hk
    have e1 : payR 2 3 wd k P xs = ((runsR 2 k P xs).1 && decide (wd = 0), (runsR 2 k P xs).2) := by unfold payR; simp
    have e2 : outPay_S 3 wd k (xs.drop P) false = outRuns_S wd k (xs.drop P) false := by unfold outPay_S; simp
    rw [e1, e2, m1]
    refine ⟨by simp [isCodec, isKind], fun h j hj => ?_⟩
    simp only [Bool.and_eq_true] at h
    simp only
    rw [show runsR 2 k P xs = runsR kN_S k P xs from rfl, m2 h.1.1 h.1.2 j hj]
    unfold vl_S val_S
    rw [if_neg (by decide), if_neg (by decide)]
  have e2 : isCodec 2 cd = false := by
    unfold isCodec; rw [if_neg (by omega)]; exact decide_eq_false (by omega)
  have e1 : (payR 2 cd wd k P xs).1 = false := by
    unfold payR; rw [if_neg h2, if_neg h3]
    by_cases h4 : cd = 4
    · rw [if_pos h4, if_pos (.inr (.inr (by decide)))]
    · rw [if_neg h4]
      by_cases h5 : cd = 5
      · rw [if_pos h5, if_pos (.inr (by decide))]
      · rw [if_neg h5]; simp [h1]
  rw [e1, e2, Bool.false_and, Bool.false_and]
  exact ⟨rfl, fun h => by cases h⟩
theorem pay_short_S (cd wd k : Nat) (X : List Nat) : good_S (outPay_S cd wd k X true) = false := by
  unfold outPay_S
  split
  · unfold good_S outPlain_S
    simp only [rd_no_S, Bool.false_and]
  split
  · unfold outDict_S
    rw [tkS_true]
    split
    · rfl
    · have hno := rd_no_S (L.wordOf 8 (tk 4 X)) (tkL 4 X)
      generalize rdS (L.wordOf 8 (tk 4 X)) (tkL 4 X) true = q at *
      obtain ⟨vals, ok, xl, s1⟩ := q
      simp only at hno ⊢
      subst hno
      rfl
  · unfold outRuns_S
    rw [tkS_true, tkS_true]
    split
    · rfl
    · have hno := rd_no_S (L.wordOf 8 (tk 4 X)) (tkL (4 * L.wordOf 8 (tk 4 X)) (tkL 4 X))
      generalize rdS (L.wordOf 8 (tk 4 X)) (tkL (4 * L.wordOf 8 (tk 4 X)) (tkL 4 X)) true = q at *
      obtain ⟨vals, ok, xl, s1⟩ := q
      simp only at hno ⊢
      subst hno
      rfl
theorem rank_at (ws : List Nat) (r : Nat) (h : bitOf ws r = false) : rankN ws (r + 1) = rankN ws r := by rw [rankN_succ, h]; simp
theorem meet_I (rows : Nat) (xs : List Nat) (hrr : rows ≤ 65536) : lkOk_I rows xs = rOk 1 rows xs ∧
    (rOk 1 rows xs = true → ∀ r, r < rows → cellA_I rows xs r = cA (rWs rows xs) r ∧ cellB_I rows xs r = cB (rWs rows xs) (rPay 1 rows xs).2 r ∧ cellC_I rows xs r = cC (rWs rows xs) (rPay 1 rows xs).2 r) := by
  cases hn : numsOk 8 (rN rows) 2 xs.length
  · have e1 : rOk 1 rows xs = false := by unfold rOk rHd; rw [hn]; simp
    rw [e1]
    refine ⟨?_, fun h => by cases h⟩
    unfold lkOk_I lkOut_I
    rw [head_no rows xs hn]
    have := pay_short_I (headOf rows xs).codec (headOf rows xs).wd (cntOf rows (headOf rows xs).nulls) (headOf rows xs).left
    unfold good_I at this
    rw [this, Bool.and_false]
  · obtain ⟨a1, a2, a3, a4, a5⟩ := head_eq rows xs hn
    have hP : 2 + 8 * rN rows ≤ xs.length := by unfold numsOk at hn; rw [decide_eq_true_eq] at hn; omega
    have hkk : cntOf rows (rWs rows xs) = rK rows xs := rfl
    have hkl : rK rows xs ≤ 65536 := by unfold rK; omega
    obtain ⟨m1, m2⟩ := payall_meet_I (xs.getD 0 0) (xs.getD 1 0) (rK rows xs) (2 + 8 * rN rows) xs hP hkl
    have e0 : lkOut_I rows xs = outPay_I (xs.getD 0 0) (xs.getD 1 0) (rK rows xs) (xs.drop (2 + 8 * rN rows)) false := by
      unfold lkOut_I; rw [a1, a2, a3, a4, a5, hkk]
    have e1 : lkOk_I rows xs = (okPack 1 rows (rWs rows xs) && (isCodec 1 (xs.getD 0 0) && good_I (outPay_I (xs.getD 0 0) (xs.getD 1 0) (rK rows xs) (xs.drop (2 + 8 * rN rows)) false))) := by
      unfold lkOk_I headOk good_I; rw [e0, a1, a3, Bool.and_assoc]; rfl
    have e2 : rOk 1 rows xs = (okPack 1 rows (rWs rows xs) && ((rPay 1 rows xs).1 && decide ((rPay 1 rows xs).2.length = rK rows xs))) := by
      unfold rOk rHd; rw [hn, Bool.true_and, Bool.and_assoc]
    refine ⟨by rw [e1, e2, m1]; rfl, fun h r hr => ?_⟩
    rw [e2, Bool.and_eq_true] at h
    have hva := m2 h.2
    unfold cellA_I cellB_I cellC_I cA cB cC
    rw [a3]
    refine ⟨rfl, ?_, ?_⟩
    all_goals
      cases hb : bitOf (rWs rows xs) r
      · simp only [Bool.false_eq_true, if_false]
        rw [rank_at _ _ hb]
        have hj : r - rankN (rWs rows xs) r < rK rows xs := by
          have := rank_mono (rWs rows xs) (r + 1) rows (by omega)
          have h2 := rankN_le (rWs rows xs) r
          rw [rank_at _ _ hb] at this
          unfold rK; omega
        have := hva _ hj
        unfold rPay
        rw [this]
        unfold vAt_I lkBase_I
        rw [e0, a1, a2, a4]
        rfl
      · simp
theorem meet_S (rows : Nat) (xs : List Nat) (hrr : rows ≤ 65536) : lkOk_S rows xs = rOk 2 rows xs ∧
    (rOk 2 rows xs = true → ∀ r, r < rows → cellA_S rows xs r = cA (rWs rows xs) r ∧ cellB_S rows xs r = cB (rWs rows xs) (rPay 2 rows xs).2 r ∧ cellC_S rows xs r = cC (rWs rows xs) (rPay 2 rows xs).2 r) := by
  cases hn : numsOk 8 (rN rows) 2 xs.length
  · have e1 : rOk 2 rows xs = false := by unfold rOk rHd; rw [hn]; simp
    rw [e1]
    refine ⟨?_, fun h => by cases h⟩
    unfold lkOk_S lkOut_S
    rw [head_no rows xs hn]
    have := pay_short_S (headOf rows xs).codec (headOf rows xs).wd (cntOf rows (headOf rows xs).nulls) (headOf rows xs).left
    unfold good_S at this
    rw [this, Bool.and_false]
  · obtain ⟨a1, a2, a3, a4, a5⟩ := head_eq rows xs hn
    have hP : 2 + 8 * rN rows ≤ xs.length := by unfold numsOk at hn; rw [decide_eq_true_eq] at hn; omega
    have hkk : cntOf rows (rWs rows xs) = rK rows xs := rfl
    have hkl : rK rows xs ≤ 65536 := by unfold rK; omega
    obtain ⟨m1, m2⟩ := payall_meet_S (xs.getD 0 0) (xs.getD 1 0) (rK rows xs) (2 + 8 * rN rows) xs hP hkl
    have e0 : lkOut_S rows xs = outPay_S (xs.getD 0 0) (xs.getD 1 0) (rK rows xs) (xs.drop (2 + 8 * rN rows)) false := by
      unfold lkOut_S; rw [a1, a2, a3, a4, a5, hkk]
    have e1 : lkOk_S rows xs = (okPack 1 rows (rWs rows xs) && (isCodec 2 (xs.getD 0 0) && good_S (outPay_S (xs.getD 0 0) (xs.getD 1 0) (rK rows xs) (xs.drop (2 + 8 * rN rows)) false))) := by
      unfold lkOk_S headOk good_S; rw [e0, a1, a3, Bool.and_assoc]; rfl
    have e2 : rOk 2 rows xs = (okPack 1 rows (rWs rows xs) && ((rPay 2 rows xs).1 && decide ((rPay 2 rows xs).2.length = rK rows xs))) := by
      unfold rOk rHd; rw [hn, Bool.true_and, Bool.and_assoc]
    refine ⟨by rw [e1, e2, m1]; rfl, fun h r hr => ?_⟩
    rw [e2, Bool.and_eq_true] at h
    have hva := m2 h.2
    unfold cellA_S cellB_S cellC_S cA cB cC
    rw [a3]
    refine ⟨rfl, ?_, ?_⟩
    all_goals
      cases hb : bitOf (rWs rows xs) r
      · simp only [Bool.false_eq_true, if_false]
        rw [rank_at _ _ hb]
        have hj : r - rankN (rWs rows xs) r < rK rows xs := by
          have := rank_mono (rWs rows xs) (r + 1) rows (by omega)
          have h2 := rankN_le (rWs rows xs) r
          rw [rank_at _ _ hb] at this
          unfold rK; omega
        have := hva _ hj
        unfold rPay
        rw [this]
        unfold vAt_S lkBase_S
        rw [e0, a1, a2]
        rfl
      · simp
end Go.Proofs.YthonbfojpbfmgaaGreatDoor
