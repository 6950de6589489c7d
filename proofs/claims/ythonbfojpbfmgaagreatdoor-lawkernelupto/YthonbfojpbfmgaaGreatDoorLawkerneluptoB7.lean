/- The plain answer: lists of values at a place. -/
import Derived.Test.YthonbfojpbfmgaaGreatDoorLawkerneluptoB6
import Derived.Deep.RegionHeld3
import Derived.Deep.CutRange
set_option linter.unusedVariables false
set_option linter.unusedSimpArgs false
set_option linter.unnecessarySimpa false
set_option maxRecDepth 100000
namespace Go.Proofs.YthonbfojpbfmgaaGreatDoor
open Go.RowKit

theorem Rd.short {w : World} {A : Option Addr} {c L : Nat} {xs : List Nat} (h : Rd w (.slice A L c) xs.length 1 (u8s xs)) (n : Nat) (hn : n ≤ xs.length) : Rd w (.slice A n c) (xs.take n).length 1 (u8s (xs.take n)) := by
  have hl : (xs.take n).length = n := by rw [List.length_take]; omega
  rw [hl]
  refine ⟨by rw [u8s_length, hl]; omega, ?_⟩
  rcases h.2 with ⟨⟨A', e⟩, h0⟩ | ⟨b, o, cap, e, h1, h2, hs⟩
  · simp only [Value.slice.injEq] at e
    obtain ⟨rfl, rfl, rfl⟩ := e
    obtain rfl : n = 0 := by omega
    exact .inl ⟨⟨A, rfl⟩, rfl⟩
  · cases e
    refine .inr ⟨b, o, c, rfl, by omega, h2, fun i v hv => hs i v ?_⟩
    rw [← take_u8s, List.getElem?_take] at hv
    split at hv
    · exact hv
    · cases hv
/-- is there a list of m strings at place p? -/
def strsOk (m p : Nat) (xs : List Nat) : Bool := numsOk 4 m p xs.length && match textEnd 0 (nI (numL 4 (tk (4 * m) (xs.drop p)))) with
  | none => false
  | some sz => decide (sz ≤ ((xs.length - (p + 4 * m) : Nat) : Int))
def strsV (m p : Nat) (xs : List Nat) : List ByteArray := if strsOk m p xs = true then cutS 0 (xs.drop (p + 4 * m)) (nI (numL 4 (tk (4 * m) (xs.drop p)))) else []
def strsNx (m p : Nat) (xs : List Nat) : Nat := if strsOk m p xs = true then p + 4 * m + (tsz (nI (numL 4 (tk (4 * m) (xs.drop p))))).toNat else 0

end Go.Proofs.YthonbfojpbfmgaaGreatDoor

/- The plain answer: values as pairs, their order, lists of them whatever the kind. -/
set_option linter.unusedVariables false
set_option linter.unusedSimpArgs false
set_option linter.unnecessarySimpa false
set_option maxRecDepth 100000
namespace Go.Proofs.YthonbfojpbfmgaaGreatDoor
open Go.RowKit

def dfP : Int × ByteArray := (0, default)
def pI (x : Int) : Int × ByteArray := (x, ByteArray.empty)
def pS (x : ByteArray) : Int × ByteArray := (0, x)
def ordP (x y : Int × ByteArray) : Int := if x.1 < y.1 then -1 else if y.1 < x.1 then 1 else ordS x.2 y.2
/-- the list of m values of a kind at place p -/
def listOk (kd : Nat) (m p : Nat) (xs : List Nat) : Bool := if kd = 1 then numsOk 8 m p xs.length else strsOk m p xs
def listNx (kd : Nat) (m p : Nat) (xs : List Nat) : Nat := if kd = 1 then (if numsOk 8 m p xs.length = true then p + 8 * m else 0) else strsNx m p xs
def listP (kd : Nat) (m p : Nat) (xs : List Nat) : List (Int × ByteArray) := if kd = 1 then ((numL 8 (tk (8 * m) (xs.drop p))).map sgn64).map pI else (strsV m p xs).map pS
end Go.Proofs.YthonbfojpbfmgaaGreatDoor

/- The plain answer: dictionaries. -/
set_option linter.unusedVariables false
set_option linter.unusedSimpArgs false
set_option linter.unnecessarySimpa false
set_option maxRecDepth 100000
namespace Go.Proofs.YthonbfojpbfmgaaGreatDoor
open Go.RowKit

abbrev PV := Int × ByteArray
def geP (a b : PV) : Bool := decide (0 ≤ ordP a b)
def eqP (a b : PV) : Bool := decide (ordP a b = 0)
def dN (p : Nat) (xs : List Nat) : Nat := if numOk 4 p xs.length = true then L.wordOf 8 ((xs.drop p).take 4) else 0
def dictR (kd wd k p : Nat) (xs : List Nat) : Bool × List PV :=
  if numOk 4 p xs.length = false ∨ 256 < dN p xs ∨ wd ≠ needN (dN p xs) then (false, [])
  else if listOk kd (dN p xs) (p + 4) xs = false ∨ noPair geP (listP kd (dN p xs) (p + 4) xs) = false then (false, [])
  else if ((lanesV wd k (listNx kd (dN p xs) (p + 4) xs) xs).all fun c => decide (c < dN p xs)) = false then (false, [])
  else (lanesOk wd k (listNx kd (dN p xs) (p + 4) xs) xs, (lanesV wd k (listNx kd (dN p xs) (p + 4) xs) xs).map fun c => (listP kd (dN p xs) (p + 4) xs).getD c dfP)
theorem listP_len (kd m p : Nat) (xs : List Nat) (h : listOk kd m p xs = true) (hkd : kd = 1 ∨ kd = 2) : (listP kd m p xs).length = m := by
  rcases hkd with rfl | rfl
  · unfold listOk at h; rw [if_pos rfl] at h
    unfold numsOk at h; simp only [decide_eq_true_eq] at h
    unfold listP; rw [if_pos rfl, List.length_map, List.length_map, numL_length]
    unfold tk; rw [if_pos (by rw [List.length_drop]; exact h.2), List.length_take, List.length_drop, Nat.min_eq_left (by omega)]
    omega
  · unfold listOk at h; rw [if_neg (by decide)] at h
    unfold listP; rw [if_neg (by decide), List.length_map]
    have h2 := h
    unfold strsOk at h2; simp only [Bool.and_eq_true] at h2
    unfold numsOk at h2; simp only [decide_eq_true_eq] at h2
    unfold strsV; rw [if_pos h, cutS_length, nI_length, numL_length]
    unfold tk; rw [if_pos (by rw [List.length_drop]; exact h2.1.2), List.length_take, List.length_drop, Nat.min_eq_left (by omega)]
    omega
theorem Rd.atW {w : World} {D : Option Addr} {n m cd : Nat} {xs : List Nat} (h : Rd w (.slice D n cd) m 1 (u64s xs)) (h0 : 0 < m) : ∃ b o, D = some ⟨b, o, none⟩ ∧
    ∀ k, k < xs.length → w.cell? ⟨b, o + k, none⟩ = some (.int .u64 ((xs.getD k 0 : Nat) : Int)) := by
  rcases h.2 with ⟨_, rfl⟩ | ⟨b, o, cap', he, _, _, hs⟩
  · exact absurd h0 (Nat.lt_irrefl 0)
  · injection he with e1 e2 e3
    exact ⟨b, o, e1, fun k hk => hs.word k hk⟩
end Go.Proofs.YthonbfojpbfmgaaGreatDoor

/- The plain answer: runs. -/
set_option linter.unusedVariables false
set_option linter.unusedSimpArgs false
set_option linter.unnecessarySimpa false
set_option maxRecDepth 100000
namespace Go.Proofs.YthonbfojpbfmgaaGreatDoor
open Go.RowKit

/-- what the first i runs stand for -/
def fillP (heads : List PV) (ends : List Nat) : Nat → List PV
  | 0 => []
  | i + 1 => fillP heads ends i ++ List.replicate (ends.getD i 0 - (fillP heads ends i).length) (heads.getD i dfP)
theorem endsUp_app (es fs : List Int) : ∀ (l m : Int), endsUp l es = some m → endsUp l (es ++ fs) = endsUp m fs := by
  induction es with
  | nil => intro l m h; simp [endsUp] at h; subst h; rfl
  | cons a r ih =>
    intro l m h
    simp only [List.cons_append, endsUp] at h ⊢
    split at h
    · cases h
    · rename_i hc; rw [if_neg hc]; exact ih a m h
theorem endsUp_ge (es : List Int) : ∀ (l m : Int), endsUp l es = some m → l ≤ m := by
  induction es with
  | nil => intro l m h; simp [endsUp] at h; omega
  | cons a r ih =>
    intro l m h
    simp only [endsUp] at h
    split at h
    · cases h
    · have := ih a m h; omega
theorem nI_getD (xs : List Nat) (i : Nat) (h : i < xs.length) : (nI xs).getD i 0 = ((xs.getD i 0 : Nat) : Int) := by
  simp [nI, List.getD, List.getElem?_eq_getElem h]
theorem endsUp_step (ends : List Nat) (i l : Nat) (hi : i < ends.length) (h : endsUp 0 (nI (ends.take i)) = some (l : Int)) :
    endsUp 0 (nI (ends.take (i + 1))) = if ends.getD i 0 ≤ l then none else some ((ends.getD i 0 : Nat) : Int) := by
  have e : ends.take (i + 1) = ends.take i ++ [ends.getD i 0] := by
    rw [List.take_succ_eq_append_getElem hi]; simp [List.getD, List.getElem?_eq_getElem hi]
  rw [e, nI_append, show nI [ends.getD i 0] = [((ends.getD i 0 : Nat) : Int)] from rfl, endsUp_snoc, h]
  simp only [Option.bind_some]
  by_cases hc : ends.getD i 0 ≤ l
  · rw [if_pos hc, if_pos (by omega)]
  · rw [if_neg hc, if_neg (by omega)]
theorem fillP_len (heads : List PV) (ends : List Nat) : ∀ (i l : Nat), i ≤ ends.length → endsUp 0 (nI (ends.take i)) = some (l : Int) → (fillP heads ends i).length = l
  | 0, l, _, h => by simp [nI, endsUp] at h; simp [fillP]; omega
  | i + 1, l, hi, h => by
    cases h0 : endsUp 0 (nI (ends.take i)) with
    | none =>
      have e : ends.take (i + 1) = ends.take i ++ [ends.getD i 0] := by
        rw [List.take_succ_eq_append_getElem (by omega)]; simp [List.getD, List.getElem?_eq_getElem (show i < ends.length by omega)]
      rw [e, nI_append, endsUp_none _ _ _ h0] at h
      cases h
    | some m =>
      have hm := endsUp_ge _ _ _ h0
      obtain ⟨m, rfl⟩ := Int.eq_ofNat_of_zero_le hm
      have ih := fillP_len heads ends i m (by omega) h0
      rw [endsUp_step ends i m (by omega) h0] at h
      split at h
      · cases h
      · injection h with h
        simp only [fillP, List.length_append, List.length_replicate, ih]
        omega
def runsR (kd k p : Nat) (xs : List Nat) : Bool × List PV :=
  if numOk 4 p xs.length = false ∨ k < dN p xs then (false, [])
  else if numsOk 4 (dN p xs) (p + 4) xs.length = false then (false, [])
  else if listOk kd (dN p xs) (p + 4 + 4 * dN p xs) xs = false ∨ ¬ listNx kd (dN p xs) (p + 4 + 4 * dN p xs) xs = xs.length then (false, [])
  else if noPair eqP (listP kd (dN p xs) (p + 4 + 4 * dN p xs) xs) = false ∨ runEnds (nI (numL 4 (tk (4 * dN p xs) (xs.drop (p + 4))))) k = false then (false, [])
  else (true, fillP (listP kd (dN p xs) (p + 4 + 4 * dN p xs) xs) (numL 4 (tk (4 * dN p xs) (xs.drop (p + 4)))) (dN p xs))
end Go.Proofs.YthonbfojpbfmgaaGreatDoor
