/- The code's answer and the plain answer meet: frames, the head of a body, readers that are short. -/
import Derived.Test.YtdlkdiaobbakiaaGreatDoorMeet1I
import Derived.Test.YtdlkdiaobbakiaaGreatDoorMeet1S
set_option linter.unusedVariables false
set_option linter.unusedSimpArgs false
set_option linter.unnecessarySimpa false
set_option maxRecDepth 20000
namespace Go.Proofs.YtdlkdiaobbakiaaGreatDoor
open Go.RowKit

theorem val_vsum (base : Int) (x : Nat) : val45 base x = vsum base x := by
  unfold val45 vsum wrap64
  rw [IntKind.wrap_i64, IntKind.wrap_i64, IntKind.wrap_u64, IntKind.wrap_u64]
  omega
theorem lanesOk_eq (wd k p : Nat) (xs : List Nat) (hp : p ≤ xs.length) : lanesOk wd k p xs = (decide ((xs.drop p).length % 8 = 0) && okPack wd k (restW (xs.drop p))) := by
  unfold lanesOk
  rw [dl]
  congr 1
  by_cases h : (xs.length - p) % 8 = 0
  · rw [decide_eq_true h, decide_eq_true ⟨hp, h⟩]
  · rw [decide_eq_false h, decide_eq_false (fun h2 => h h2.2)]
theorem off_meet (wd k p : Nat) (base : Int) (xs : List Nat) (hp : p ≤ xs.length) (hk : k ≤ 65536) :
    good_I (outOff wd base k (xs.drop p) false) = ((fits base (lanesV wd k p xs) && lanesOk wd k p xs) && decide (((sumsL base (lanesV wd k p xs)).map pI).length = k)) ∧
    ((fits base (lanesV wd k p xs) && lanesOk wd k p xs) = true → ∀ j, j < k → ((sumsL base (lanesV wd k p xs)).map pI).getD j dfP = pK_I (val45 base (L.laneOf wd (restW (xs.drop p)) j))) := by
  obtain ⟨m1, m2⟩ := restW_mod (xs.drop p)
  have hlk := lanesOk_eq wd k p xs hp
  have hlb := lanesB_iff wd k 5 (restW (xs.drop p)) (roomN base) (by decide) hk
  have hst : ∀ j, standsB 5 (L.laneOf wd (restW (xs.drop p)) j) (roomN base) = decide (roomN base < L.laneOf wd (restW (xs.drop p)) j) := fun j => rfl
  unfold good_I outOff
  simp only [m1, m2]
  cases hkk : lanesOk wd k p xs
  · rw [Bool.and_false, Bool.false_and]
    refine ⟨?_, fun h => by cases h⟩
    have hf : ¬ (lanesB wd k 5 (restW (xs.drop p)) (roomN base) = true ∧ (xs.drop p).length % 8 = 0) := by
      rintro ⟨a, b⟩
      rw [hlk, decide_eq_true b, (hlb.1 a).1] at hkk
      cases hkk
    simp only [Bool.not_false, Bool.true_and]
    rw [Bool.and_eq_false_iff]
    by_cases ha : lanesB wd k 5 (restW (xs.drop p)) (roomN base) = true
    · exact .inr (decide_eq_false (fun hb => hf ⟨ha, hb⟩))
    · exact .inl (by simpa using ha)
  · have hv : lanesV wd k p xs = L.lanesL wd k (restW (xs.drop p)) := by unfold lanesV; rw [hkk, if_pos rfl]
    rw [hlk, Bool.and_eq_true, decide_eq_true_eq] at hkk
    rw [hv]
    have hall : fits base (L.lanesL wd k (restW (xs.drop p))) = lanesB wd k 5 (restW (xs.drop p)) (roomN base) := by
      unfold fits
      rw [Bool.eq_iff_iff, hlb, List.all_eq_true]
      constructor
      · intro h
        refine ⟨hkk.2, fun j hj => ?_⟩
        rw [hst, decide_eq_false_iff_not]
        have := h (L.laneOf wd (restW (xs.drop p)) j) (List.mem_map.2 ⟨j, List.mem_range.2 hj, rfl⟩)
        rw [decide_eq_true_eq] at this
        omega
      · rintro ⟨_, h⟩ x hx
        obtain ⟨j, hj, rfl⟩ := List.mem_map.1 hx
        have := h j (List.mem_range.1 hj)
        rw [hst, decide_eq_false_iff_not] at this
        rw [decide_eq_true_eq]
        omega
    have hsl : lanesB wd k 5 (restW (xs.drop p)) (roomN base) = true → sumsL base (L.lanesL wd k (restW (xs.drop p))) = (L.lanesL wd k (restW (xs.drop p))).map (vsum base) := fun h => by
      unfold sumsL; rw [hall, h, if_pos rfl]
    rw [hall]
    cases hb : lanesB wd k 5 (restW (xs.drop p)) (roomN base)
    · exact ⟨rfl, fun h => by cases h⟩
    · rw [hsl hb]
      refine ⟨?_, fun _ j hj => ?_⟩
      · rw [List.length_map, List.length_map, L.lanesL_length, decide_eq_true hkk.1, decide_eq_true rfl]; rfl
      · rw [List.map_map, map_getD (pI ∘ vsum base) (L.lanesL wd k (restW (xs.drop p))) j 0 dfP (by rw [L.lanesL_length]; exact hj), L.lanesL_get _ _ _ _ hj, val_vsum]
        rfl
theorem off_short (wd k : Nat) (base : Int) (X : List Nat) : good_I (outOff wd base k X true) = false := by
  unfold good_I outOff
  simp only [tkS_true, Bool.not_true, Bool.false_and, Bool.and_false]
theorem off_wide (wd k : Nat) (base : Int) (X : List Nat) (h : 64 < wd) (s : Bool) : good_I (outOff wd base k X s) = false := by
  have h1 : lanesB wd k 5 (restW X) (roomN base) = false := by
    rw [← Bool.not_eq_true]
    intro h2
    have := (lanesB_true h2).1
    omega
  unfold good_I outOff
  simp only [h1, Bool.false_and]

theorem pay_short_I (cd wd k : Nat) (X : List Nat) : good_I (outPay_I cd wd k X true) = false := by
  unfold outPay_I
  split
  · unfold good_I outPlain_I
    simp only [rd_no_I, Bool.false_and]
  split
  · unfold outDict_I
    rw [tkS_true]
    split
    · rfl
    · have hno := rd_no_I (L.wordOf 8 (tk 4 X)) (tkL 4 X)
      generalize rdI (L.wordOf 8 (tk 4 X)) (tkL 4 X) true = q at *
      obtain ⟨vals, ok, xl, s1⟩ := q
      simp only at hno ⊢
      subst hno
      rfl
  split
  · unfold outRuns_I
    rw [tkS_true, tkS_true]
    split
    · rfl
    · have hno := rd_no_I (L.wordOf 8 (tk 4 X)) (tkL (4 * L.wordOf 8 (tk 4 X)) (tkL 4 X))
      generalize rdI (L.wordOf 8 (tk 4 X)) (tkL (4 * L.wordOf 8 (tk 4 X)) (tkL 4 X)) true = q at *
      obtain ⟨vals, ok, xl, s1⟩ := q
      simp only at hno ⊢
      subst hno
      rfl
  split
  · rw [tkS_true]; exact off_short _ _ _ _
  · exact off_short _ _ _ _
/-- the head of a body that is long enough -/
theorem head_eq (rows : Nat) (xs : List Nat) (h : numsOk 8 (rN rows) 2 xs.length = true) :
    (headOf rows xs).codec = xs.getD 0 0 ∧ (headOf rows xs).wd = xs.getD 1 0 ∧ (headOf rows xs).nulls = rWs rows xs ∧ (headOf rows xs).left = xs.drop (2 + 8 * rN rows) ∧ (headOf rows xs).short = false := by
  unfold numsOk at h
  rw [decide_eq_true_eq] at h
  obtain ⟨a, b, t, rfl⟩ : ∃ a b t, xs = a :: b :: t := by
    match xs, h.1 with
    | a :: b :: t, _ => exact ⟨a, b, t, rfl⟩
  have h2 : 8 * rN rows ≤ t.length := by have := h.2; simpa using this
  have e1 : tk 1 (a :: b :: t) = [a] := by simp [tk]
  have e2 : tkL 1 (a :: b :: t) = b :: t := by simp [tkL]
  have e3 : tk 1 (b :: t) = [b] := by simp [tk]
  have e4 : tkL 1 (b :: t) = t := by simp [tkL]
  have e5 : tkS 1 (a :: b :: t) false = false := by simp [tkS]
  have e6 : tkS 1 (b :: t) false = false := by simp [tkS]
  unfold headOf
  simp only [e1, e2, e3, e4, e5, e6]
  refine ⟨by simp [L.wordOf], by simp [L.wordOf], rfl, ?_, ?_⟩
  · unfold tkL; rw [show (rows + 63) / 64 = rN rows from rfl, if_pos h2]
    rw [show 2 + 8 * rN rows = 8 * rN rows + 1 + 1 by omega, List.drop_succ_cons, List.drop_succ_cons]
  · unfold tkS; rw [show (rows + 63) / 64 = rN rows from rfl, if_pos h2]
theorem head_no (rows : Nat) (xs : List Nat) (h : numsOk 8 (rN rows) 2 xs.length = false) : (headOf rows xs).short = true := by
  unfold numsOk at h
  rw [decide_eq_false_iff_not] at h
  unfold headOf
  simp only
  match xs with
  | [] => simp [tkS, tkL]
  | [a] => simp [tkS, tkL]
  | a :: b :: t =>
    have e2 : tkL 1 (a :: b :: t) = b :: t := by simp [tkL]
    have e4 : tkL 1 (b :: t) = t := by simp [tkL]
    rw [e2, e4]
    have h2 : ¬ 8 * rN rows ≤ t.length := by
      intro h3
      exact h ⟨by simp, by simpa using h3⟩
    unfold tkS
    rw [show (rows + 63) / 64 = rN rows from rfl, if_neg h2]
end Go.Proofs.YtdlkdiaobbakiaaGreatDoor
