/- The plain answer: the smallest and the greatest of values. -/
import Derived.Test.YthonbfojpbfmgaaGreatDoorLawfilteruptoB15
import Derived.Deep.RegionWith
import Derived.Lib.SlicesCompact
import Derived.Sort.Walk0
set_option linter.unusedVariables false
set_option linter.unusedSimpArgs false
set_option linter.unnecessarySimpa false
set_option maxRecDepth 100000
namespace Go.Proofs.YthonbfojpbfmgaaGreatDoor
open Go.RowKit

def zeroP : PV := (0, ByteArray.empty)
/-- a value as a cell, in memory -/
def pvc (v : PV) : List Value := [.bool false, .int .i64 v.1, .string v.2]
structure ExS (w0 : World) (s : Nat) (w : World) (m M : PV) : Prop where
  r0 : Row w s 42 (pvc zeroP)
  r1 : Row w (s + 1) 42 (pvc zeroP)
  r2 : Row w (s + 1 + 1) 42 (pvc m)
  r3 : Row w (s + 1 + 1 + 1) 42 (pvc M)
  bl : Below s w0 w
  sz : s + 4 ≤ w.heap.size
theorem ExS.step {w0 : World} {s : Nat} {w w' : World} {m M : PV} (h : ExS w0 s w m M) (hb : Below w.heap.size w w') : ExS w0 s w' m M :=
  ⟨h.r0.mono hb, h.r1.mono hb, h.r2.mono hb, h.r3.mono hb, Below.trans h.bl (hb.mono (by have := h.sz; omega)), Nat.le_trans h.sz hb.size⟩
end Go.Proofs.YthonbfojpbfmgaaGreatDoor

/- The plain answer: the place of a value, the different values. -/
set_option linter.unusedVariables false
set_option linter.unusedSimpArgs false
set_option linter.unnecessarySimpa false
set_option maxRecDepth 100000
namespace Go.Proofs.YthonbfojpbfmgaaGreatDoor
open Go.RowKit

end Go.Proofs.YthonbfojpbfmgaaGreatDoor

/- The plain answer: the different values, the smallest first. -/
set_option linter.unusedVariables false
set_option linter.unusedSimpArgs false
set_option linter.unnecessarySimpa false
set_option maxRecDepth 100000
namespace Go.Proofs.YthonbfojpbfmgaaGreatDoor
open Go.RowKit

end Go.Proofs.YthonbfojpbfmgaaGreatDoor

/- Mathematics of the different values: each is one of the values, and none stands at or below the one before. -/
set_option maxRecDepth 512
set_option linter.unusedVariables false
set_option linter.unusedSimpArgs false
set_option linter.unnecessarySimpa false
namespace Go.Proofs.YthonbfojpbfmgaaGreatDoor
open Go.RowKit

theorem bytesLess_trans : ∀ a b c : List UInt8, Op.bytesLess a b = true → Op.bytesLess b c = true → Op.bytesLess a c = true := by
  intro a
  induction a with
  | nil =>
    intro b c h1 h2
    cases b with
    | nil => simp [Op.bytesLess] at h1
    | cons y b =>
      cases c with
      | nil => simp [Op.bytesLess] at h2
      | cons z c => simp [Op.bytesLess]
  | cons x a ih =>
    intro b c h1 h2
    cases b with
    | nil => simp [Op.bytesLess] at h1
    | cons y b =>
      cases c with
      | nil => simp [Op.bytesLess] at h2
      | cons z c =>
        simp only [Op.bytesLess, Bool.or_eq_true, Bool.and_eq_true, decide_eq_true_eq, beq_iff_eq] at h1 h2 ⊢
        rcases h1 with h1 | ⟨h1, h3⟩ <;> rcases h2 with h2 | ⟨h2, h4⟩
        · exact .inl (UInt8.lt_trans h1 h2)
        · subst h2; exact .inl h1
        · subst h1; exact .inl h2
        · subst h1 h2; exact .inr ⟨rfl, ih _ _ h3 h4⟩
theorem bytesLess_self : ∀ l : List UInt8, Op.bytesLess l l = false := by
  intro l
  induction l with
  | nil => rfl
  | cons a l ih => rw [Op.bytesLess, ih]; simp
def gtP (a b : PV) : Prop := b.1 < a.1 ∨ (a.1 = b.1 ∧ Op.bytesLess b.2.toList a.2.toList = true)
end Go.Proofs.YthonbfojpbfmgaaGreatDoor

/- Mathematics: what is sorted and then cleared of repeats is the list of the different values. -/
set_option maxRecDepth 512
set_option linter.unusedVariables false
set_option linter.unusedSimpArgs false
set_option linter.unnecessarySimpa false
namespace Go.Proofs.YthonbfojpbfmgaaGreatDoor
open Go.RowKit

section
variable {α : Type} [Inhabited α] [DecidableEq α] (lt : α → α → Prop)
theorem compactUpTo_inc (hT : ∀ a b c, lt a b → lt b c → lt a c) (d : Array α) (hs : ∀ i j, i < j → j < d.size → lt d[i]! d[j]! ∨ d[i]! = d[j]!) :
    ∀ m, m ≤ d.size → (Lib.compactUpTo d m).Pairwise lt ∧ (∀ x ∈ Lib.compactUpTo d m, ∃ j, j < m ∧ d[j]! = x) ∧ (∀ j, j < m → d[j]! ∈ Lib.compactUpTo d m) := by
  intro m
  induction m with
  | zero => intro _; exact ⟨by simp [Lib.compactUpTo], by simp [Lib.compactUpTo], fun j hj => by omega⟩
  | succ m ih =>
    intro hm
    obtain ⟨h1, h2, h3⟩ := ih (by omega)
    rw [Lib.compactUpTo_succ]
    by_cases hk : Lib.keeps d m = true
    · rw [if_pos hk]
      refine ⟨?_, ?_, ?_⟩
      · rw [List.pairwise_append]
        refine ⟨h1, List.pairwise_singleton _ _, fun x hx y hy => ?_⟩
        rw [List.mem_singleton] at hy
        subst hy
        obtain ⟨j, hj, rfl⟩ := h2 x hx
        have hne : d[m]! ≠ d[m - 1]! := by
          simp only [Lib.keeps, decide_eq_true_eq] at hk
          rcases hk with hk | hk
          · omega
          · exact hk
        have hl : lt d[m - 1]! d[m]! := by
          rcases hs (m - 1) m (by omega) (by omega) with h | h
          · exact h
          · exact absurd h.symm hne
        by_cases hjm : j = m - 1
        · subst hjm; exact hl
        · rcases hs j (m - 1) (by omega) (by omega) with h | h
          · exact hT _ _ _ h hl
          · rw [h]; exact hl
      · intro x hx
        rcases List.mem_append.1 hx with h | h
        · obtain ⟨j, hj, e⟩ := h2 x h; exact ⟨j, by omega, e⟩
        · rw [List.mem_singleton] at h; exact ⟨m, by omega, h.symm⟩
      · intro j hj
        by_cases e : j = m
        · subst e; simp
        · exact List.mem_append_left _ (h3 j (by omega))
    · rw [if_neg hk, List.append_nil]
      refine ⟨h1, fun x hx => ?_, fun j hj => ?_⟩
      · obtain ⟨j, hj, e⟩ := h2 x hx; exact ⟨j, by omega, e⟩
      · by_cases e : j = m
        · subst e
          simp only [Lib.keeps, decide_eq_true_eq, not_or, Classical.not_not] at hk
          rw [hk.2]
          exact h3 (j - 1) (by omega)
        · exact h3 j (by omega)
theorem compact_inc (hT : ∀ a b c, lt a b → lt b c → lt a c) (zs : List α) (hs : zs.Pairwise (fun a b => lt a b ∨ a = b)) :
    (Lib.compact zs).Pairwise lt ∧ (∀ x, x ∈ Lib.compact zs ↔ x ∈ zs) := by
  have h := compactUpTo_inc lt hT zs.toArray (fun i j hij hj => by
    have hj' : j < zs.length := by simpa using hj
    rw [getElem!_pos zs.toArray i (by simp; omega), getElem!_pos zs.toArray j hj]
    simp only [List.getElem_toArray]
    exact List.pairwise_iff_getElem.1 hs i j (by omega) hj' hij) zs.length (by simp)
  refine ⟨h.1, fun x => ⟨fun hx => ?_, fun hx => ?_⟩⟩
  · obtain ⟨j, hj, rfl⟩ := h.2.1 x hx
    rw [getElem!_pos zs.toArray j (by simpa using hj)]
    simp
  · obtain ⟨j, hj, rfl⟩ := List.getElem_of_mem hx
    have := h.2.2 j hj
    rw [getElem!_pos zs.toArray j (by simpa using hj)] at this
    unfold Lib.compact
    simpa using this
end

def dictI (xs : List Int) : List Int := Lib.compact (xs.mergeSort fun x y => decide (x ≤ y))
theorem dictI_spec (xs : List Int) : (dictI xs).Pairwise (· < ·) ∧ (∀ x, x ∈ dictI xs ↔ x ∈ xs) := by
  have h := compact_inc (fun a b : Int => a < b) (fun a b c h1 h2 => Int.lt_trans h1 h2) (xs.mergeSort fun x y => decide (x ≤ y)) (by
    have h := List.pairwise_mergeSort (le := fun x y : Int => decide (x ≤ y)) (fun a b c h1 h2 => by simp at h1 h2 ⊢; omega) (fun a b => by simp; omega) xs
    exact h.imp (fun {a b} h => by simp at h; omega))
  exact ⟨h.1, fun x => (h.2 x).trans (List.mergeSort_perm xs _).mem_iff⟩
theorem dictI_mem (xs : List Int) : ∀ x, x ∈ (dictI xs).map pI ↔ x ∈ xs.map pI := by
  intro x
  simp only [List.mem_map, (dictI_spec xs).2]
def dictS (ss : List ByteArray) : List ByteArray := (Lib.compact ((ss.map (·.data.toList)).mergeSort fun x y => decide (x ≤ y))).map fun l => ⟨l.toArray⟩
theorem dictS_spec (ss : List ByteArray) : ((dictS ss).map pS).Pairwise (fun a b => gtP b a) ∧ (∀ x, x ∈ (dictS ss).map pS ↔ x ∈ ss.map pS) := by
  have h := compact_inc (fun a b : List UInt8 => a < b) (fun a b c h1 h2 => List.lt_trans h1 h2) ((ss.map (·.data.toList)).mergeSort fun x y => decide (x ≤ y)) (by
    have h := List.pairwise_mergeSort (le := fun x y : List UInt8 => decide (x ≤ y)) (fun a b c h1 h2 => by simp only [decide_eq_true_eq] at h1 h2 ⊢; exact List.le_trans h1 h2) (fun a b => by simp only [Bool.or_eq_true, decide_eq_true_eq]; exact List.le_total a b) (ss.map (·.data.toList))
    exact h.imp (fun {a b} h => by
      simp only [decide_eq_true_eq] at h
      exact List.le_iff_lt_or_eq.1 h))
  refine ⟨?_, fun x => ?_⟩
  · unfold dictS
    rw [List.pairwise_map, List.pairwise_map]
    refine h.1.imp (fun {a b} h => .inr ⟨rfl, ?_⟩)
    unfold pS
    rw [ByteArray.toList_eq, ByteArray.toList_eq, bytesLess_eq]
    simpa using h
  · unfold dictS
    simp only [List.mem_map, h.2, (List.mergeSort_perm _ _).mem_iff]
    constructor
    · rintro ⟨a, ⟨b, ⟨c, hc, rfl⟩, rfl⟩, rfl⟩
      exact ⟨c, hc, by rw [Array.toArray_toList]⟩
    · rintro ⟨a, ha, rfl⟩
      exact ⟨a, ⟨_, ⟨a, ha, rfl⟩, by rw [Array.toArray_toList]⟩, rfl⟩
end Go.Proofs.YthonbfojpbfmgaaGreatDoor

/- The plain answer: the payload by a dictionary. -/
set_option linter.unusedVariables false
set_option linter.unusedSimpArgs false
set_option linter.unnecessarySimpa false
set_option maxRecDepth 100000
namespace Go.Proofs.YthonbfojpbfmgaaGreatDoor
open Go.RowKit

end Go.Proofs.YthonbfojpbfmgaaGreatDoor

/- The plain answer: the other payloads. -/
set_option linter.unusedVariables false
set_option linter.unusedSimpArgs false
set_option linter.unnecessarySimpa false
set_option maxRecDepth 100000
namespace Go.Proofs.YthonbfojpbfmgaaGreatDoor
open Go.RowKit

end Go.Proofs.YthonbfojpbfmgaaGreatDoor

/- The plain answer: packed values. -/
set_option linter.unusedVariables false
set_option linter.unusedSimpArgs false
set_option linter.unnecessarySimpa false
set_option maxRecDepth 100000
namespace Go.Proofs.YthonbfojpbfmgaaGreatDoor
open Go.RowKit

/-! ### whatever the codec -/
end Go.Proofs.YthonbfojpbfmgaaGreatDoor
