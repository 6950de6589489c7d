/- The plain answer: runs. -/
import Derived.Test.YtdlkdiaobbakiaaGreatDoorRefq
set_option linter.unusedVariables false
set_option linter.unusedSimpArgs false
set_option linter.unnecessarySimpa false
set_option maxRecDepth 100000
namespace Go.Proofs.YtdlkdiaobbakiaaGreatDoor
open Go.RowKit

/-- what the first i runs stand for -/
def fillP (heads : List PV) (ends : List Nat) : Nat → List PV
  | 0 => []
  | i + 1 => fillP heads ends i ++ List.replicate (ends.getD i 0 - (fillP heads ends i).length) (heads.getD i dfP)
theorem endsUp_app (es fs : List Int) : ∀ (l m : Int), endsUp l es = some m → endsUp l (es ++ fs) = endsUp m fs := by
  induction es with
  | nil => intro l m h; simp [endsUp] at h; subst h; rfl
  | cons a r ih =>
    intro l m h
    simp only [List.cons_append, endsUp] at h ⊢
    split at h
    · cases h
    · rename_i hc; rw [if_neg hc]; exact ih a m h
theorem endsUp_ge (es : List Int) : ∀ (l m : Int), endsUp l es = some m → l ≤ m := by
  induction es with
  | nil => intro l m h; simp [endsUp] at h; omega
  | cons a r ih =>
    intro l m h
    simp only [endsUp] at h
    split at h
    · cases h
    · have := ih a m h; omega
theorem nI_take (xs : List Nat) (i : Nat) : nI (xs.take i) = (nI xs).take i := by simp [nI]
theorem nI_getD (xs : List Nat) (i : Nat) (h : i < xs.length) : (nI xs).getD i 0 = ((xs.getD i 0 : Nat) : Int) := by
  simp [nI, List.getD, List.getElem?_eq_getElem h]
theorem endsUp_step (ends : List Nat) (i l : Nat) (hi : i < ends.length) (h : endsUp 0 (nI (ends.take i)) = some (l : Int)) :
    endsUp 0 (nI (ends.take (i + 1))) = if ends.getD i 0 ≤ l then none else some ((ends.getD i 0 : Nat) : Int) := by
  have e : ends.take (i + 1) = ends.take i ++ [ends.getD i 0] := by
    rw [List.take_succ_eq_append_getElem hi]; simp [List.getD, List.getElem?_eq_getElem hi]
  rw [e, nI_append, show nI [ends.getD i 0] = [((ends.getD i 0 : Nat) : Int)] from rfl, endsUp_snoc, h]
  simp only [Option.bind_some]
  by_cases hc : ends.getD i 0 ≤ l
  · rw [if_pos hc, if_pos (by omega)]
  · rw [if_neg hc, if_neg (by omega)]
theorem runEnds_no1 (ends : List Nat) (i : Nat) (k : Int) (h : endsUp 0 (nI (ends.take i)) = none) : runEnds (nI ends) k = false := by
  have := endsUp_none (nI (ends.take i)) (nI (ends.drop i)) 0 h
  rw [← nI_append, List.take_append_drop] at this
  simp [runEnds, this]
theorem runEnds_no2 (ends : List Nat) (i : Nat) (k m : Int) (h : endsUp 0 (nI (ends.take i)) = some m) (hm : k < m) : runEnds (nI ends) k = false := by
  have h2 := endsUp_app (nI (ends.take i)) (nI (ends.drop i)) 0 m h
  rw [← nI_append, List.take_append_drop] at h2
  unfold runEnds
  rw [h2]
  cases he : endsUp m (nI (ends.drop i)) with
  | none => rfl
  | some x =>
    have := endsUp_ge _ _ _ he
    simp; omega
theorem fillP_len (heads : List PV) (ends : List Nat) : ∀ (i l : Nat), i ≤ ends.length → endsUp 0 (nI (ends.take i)) = some (l : Int) → (fillP heads ends i).length = l
  | 0, l, _, h => by simp [nI, endsUp] at h; simp [fillP]; omega
  | i + 1, l, hi, h => by
    cases h0 : endsUp 0 (nI (ends.take i)) with
    | none =>
      have e : ends.take (i + 1) = ends.take i ++ [ends.getD i 0] := by
        rw [List.take_succ_eq_append_getElem (by omega)]; simp [List.getD, List.getElem?_eq_getElem (show i < ends.length by omega)]
      rw [e, nI_append, endsUp_none _ _ _ h0] at h
      cases h
    | some m =>
      have hm := endsUp_ge _ _ _ h0
      obtain ⟨m, rfl⟩ := Int.eq_ofNat_of_zero_le hm
      have ih := fillP_len heads ends i m (by omega) h0
      rw [endsUp_step ends i m (by omega) h0] at h
      split at h
      · cases h
      · injection h with h
        simp only [fillP, List.length_append, List.length_replicate, ih]
        omega
def runsR (kd k p : Nat) (xs : List Nat) : Bool × List PV :=
  if numOk 4 p xs.length = false ∨ k < dN p xs then (false, [])
  else if numsOk 4 (dN p xs) (p + 4) xs.length = false then (false, [])
  else if listOk kd (dN p xs) (p + 4 + 4 * dN p xs) xs = false ∨ ¬ listNx kd (dN p xs) (p + 4 + 4 * dN p xs) xs = xs.length then (false, [])
  else if noPair eqP (listP kd (dN p xs) (p + 4 + 4 * dN p xs) xs) = false ∨ runEnds (nI (numL 4 (tk (4 * dN p xs) (xs.drop (p + 4))))) k = false then (false, [])
  else (true, fillP (listP kd (dN p xs) (p + 4 + 4 * dN p xs) xs) (numL 4 (tk (4 * dN p xs) (xs.drop (p + 4)))) (dN p xs))
end Go.Proofs.YtdlkdiaobbakiaaGreatDoor
