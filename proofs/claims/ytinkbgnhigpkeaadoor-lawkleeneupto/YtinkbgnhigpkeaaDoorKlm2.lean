/- Three truth values as plain mathematics: a pair that came out is a pair; NOT of an AND. -/
import Derived.Test.YtinkbgnhigpkeaaDoorKlr2
set_option linter.unusedVariables false
set_option linter.unusedSimpArgs false
set_option linter.unnecessarySimpa false
set_option maxRecDepth 20000
namespace Go.Proofs.YtinkbgnhigpkeaaDoor
open Go.RowKit

theorem kleV_lt (v op n : Int) (aT aU bT bU : List Nat) : ∀ x ∈ kleV v op n aT aU bT bU, x < 18446744073709551616 := by
  intro x hx
  unfold kleV at hx
  split at hx
  · exact (bmL_isBm _).2.1 x hx
  · cases hx
theorem kleOk_n {op n : Int} {aT aU bT bU : List Nat} (h : kleOk op n aT aU bT bU = true) : ∃ m : Nat, n = m ∧ m ≤ 65536 ∧ prOk n aT aU = true ∧ (op = 12 ∨ prOk n bT bU = true) ∧ (op = 10 ∨ op = 11 ∨ op = 12) := by
  unfold kleOk at h
  simp only [Bool.and_eq_true, Bool.or_eq_true, decide_eq_true_eq] at h
  obtain ⟨m, hm, h2, _⟩ := prOk_nat h.1.2
  exact ⟨m, hm, h2, h.1.2, h.2, by rcases h.1.1 with (h | h) | h <;> simp [h]⟩
theorem kleV_len (v op n : Int) (aT aU bT bU : List Nat) : (kleV v op n aT aU bT bU).length ≤ 65536 := by
  unfold kleV
  split
  · rename_i h
    obtain ⟨m, rfl, hm, _⟩ := kleOk_n h
    rw [bmL_len]
    have := L.nWords_le (w := 1) (n := ((List.range (m : Int).toNat).map (kleF op v aT aU bT bU)).length) (by omega)
    simp only [List.length_map, List.length_range, Int.toNat_natCast] at this ⊢
    omega
  · simp
theorem joinI_range {op x y : Int} (hx : 0 ≤ x ∧ x ≤ 2) (hy : 0 ≤ y ∧ y ≤ 2) : 0 ≤ joinI op x y ∧ joinI op x y ≤ 2 := by
  unfold joinI
  split
  · omega
  · split <;> omega
theorem bmL_bitOf (m : Nat) (f : Nat → Bool) (i : Nat) : bitOf (bmL ((List.range m).map f)) i = (decide (i < m) && f i) := by
  have h := bmL_isBm ((List.range m).map f)
  rw [List.length_map, List.length_range] at h
  by_cases hi : i < 64 * (bmL ((List.range m).map f)).length
  · rw [h.2.2 i hi]
    by_cases him : i < m
    · simp [him, List.getD, List.getElem?_range him]
    · simp [him]
  · rw [bitOf_out _ _ (by omega)]
    have := nWords1_le m
    rw [h.1] at hi
    have him : ¬ i < m := by omega
    simp [him]
theorem trB_of {J : Int} (h : 0 ≤ J ∧ J ≤ 2) : trB (decide (J = 2)) (decide (J = 1)) = J := by
  have : J = 0 ∨ J = 1 ∨ J = 2 := by omega
  rcases this with rfl | rfl | rfl <;> rfl
theorem kleV_tr {op : Int} {m : Nat} {aT aU bT bU : List Nat} (h : kleOk op m aT aU bT bU = true) (i : Nat) (hi : i < m) : trU (kleV 2 op m aT aU bT bU) (kleV 1 op m aT aU bT bU) i = joinI op (trU aT aU i) (trU bT bU i) := by
  have hr := joinI_range (op := op) (trU_range aT aU i) (trU_range bT bU i)
  rw [kleV_on h, kleV_on h, Int.toNat_natCast]
  show trB (bitOf _ i) (bitOf _ i) = _
  rw [bmL_bitOf, bmL_bitOf, decide_eq_true hi, Bool.true_and, Bool.true_and]
  exact trB_of hr
theorem kleV_pair {op n : Int} {aT aU bT bU : List Nat} (h : kleOk op n aT aU bT bU = true) : prOk n (kleV 2 op n aT aU bT bU) (kleV 1 op n aT aU bT bU) = true := by
  obtain ⟨m, rfl, hm, _⟩ := kleOk_n h
  rw [kleV_on h, kleV_on h, Int.toNat_natCast]
  have hp : ∀ f : Nat → Bool, okPack 1 (m : Int) (bmL ((List.range m).map f)) = true := fun f => by
    refine (okPack_nat (wd := 1) (n := m) _ (by decide) hm).2 ?_
    have h := L.pack_isPack (w := 1) (by omega) (((List.range m).map f).map Bool.toNat) (toNat_lt _)
    rw [List.length_map, List.length_map, List.length_range] at h
    exact h
  unfold prOk
  rw [hp, hp]
  refine disj_of_bits (m := m) (bmL_isBm _).2.1 (fun i hi => by rw [bmL_bitOf]; simp; omega) fun i hi => ?_
  rw [bmL_bitOf, bmL_bitOf]
  simp only [kleF]
  by_cases h2 : joinI op (trU aT aU i) (trU bT bU i) = 2
  · rw [h2]; simp
  · simp [h2]
theorem demorgan {n : Int} {aT aU bT bU : List Nat} (h : kleOk 10 n aT aU bT bU = true) :
    kleOk 12 n aT aU [] [] = true ∧ kleOk 12 n bT bU [] [] = true ∧ kleOk 12 n (kleV 2 10 n aT aU bT bU) (kleV 1 10 n aT aU bT bU) [] [] = true ∧
    kleOk 11 n (kleV 2 12 n aT aU [] []) (kleV 1 12 n aT aU [] []) (kleV 2 12 n bT bU [] []) (kleV 1 12 n bT bU [] []) = true ∧
    ∀ v, kleV v 12 n (kleV 2 10 n aT aU bT bU) (kleV 1 10 n aT aU bT bU) [] [] = kleV v 11 n (kleV 2 12 n aT aU [] []) (kleV 1 12 n aT aU [] []) (kleV 2 12 n bT bU [] []) (kleV 1 12 n bT bU [] []) := by
  obtain ⟨m, rfl, hm, ha, hb, _⟩ := kleOk_n h
  have hb : prOk (m : Int) bT bU = true := by rcases hb with hb | hb; (· cases hb); exact hb
  have k1 : kleOk 12 (m : Int) aT aU [] [] = true := by unfold kleOk; rw [ha]; rfl
  have k2 : kleOk 12 (m : Int) bT bU [] [] = true := by unfold kleOk; rw [hb]; rfl
  have k3 : kleOk 12 (m : Int) (kleV 2 10 m aT aU bT bU) (kleV 1 10 m aT aU bT bU) [] [] = true := by unfold kleOk; rw [kleV_pair h]; rfl
  have k4 : kleOk 11 (m : Int) (kleV 2 12 m aT aU [] []) (kleV 1 12 m aT aU [] []) (kleV 2 12 m bT bU [] []) (kleV 1 12 m bT bU [] []) = true := by unfold kleOk; rw [kleV_pair k1, kleV_pair k2]; rfl
  refine ⟨k1, k2, k3, k4, fun v => ?_⟩
  rw [kleV_on k3, kleV_on k4, Int.toNat_natCast]
  congr 1
  apply List.map_congr_left
  intro i hi
  have him := List.mem_range.1 hi
  unfold kleF
  rw [kleV_tr h i him, kleV_tr k1 i him, kleV_tr k2 i him, joinN, joinN, joinN]
  have hx := trU_range aT aU i
  have hy := trU_range bT bU i
  generalize trU aT aU i = x at *
  generalize trU bT bU i = y at *
  congr 1
  by_cases hxy : x < y
  · rw [joinX (by omega) (.inl ⟨rfl, hxy⟩), joinX (by omega) (.inr ⟨rfl, by omega⟩)]
  · rw [joinY (by omega) (by omega), joinY (by omega) (by omega)]
end Go.Proofs.YtinkbgnhigpkeaaDoor
