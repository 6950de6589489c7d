/- Three truth values as plain mathematics: what AND, OR and NOT make of pairs of bitmaps. -/
import Derived.Test.YtinkbgnhigpkeaaDoorKln
set_option linter.unusedVariables false
set_option linter.unusedSimpArgs false
set_option linter.unnecessarySimpa false
set_option maxRecDepth 20000
namespace Go.Proofs.YtinkbgnhigpkeaaDoor
open Go.RowKit

/-- what a pair says of row i -/
def trB (x y : Bool) : Int := if x = true then 2 else if y = true then 1 else 0
def trU (T U : List Nat) (i : Nat) : Int := trB (bitOf T i) (bitOf U i)
def joinI (op x y : Int) : Int := if op = 12 then 2 - x else if (op = 10 ∧ x < y) ∨ (op = 11 ∧ x > y) then x else y
def kleOk (op n : Int) (aT aU bT bU : List Nat) : Bool := (decide (op = 10) || decide (op = 11) || decide (op = 12)) && prOk n aT aU && (decide (op = 12) || prOk n bT bU)
def kleF (op val : Int) (aT aU bT bU : List Nat) (i : Nat) : Bool := decide (joinI op (trU aT aU i) (trU bT bU i) = val)
def kleV (val op n : Int) (aT aU bT bU : List Nat) : List Nat := if kleOk op n aT aU bT bU = true then bmL ((List.range n.toNat).map (kleF op val aT aU bT bU)) else []
theorem k_bT (p1 p2 p3 p4 : Bool) (d1 : (p1 && p2) = false) (d2 : (p3 && p4) = false) : (p1 && p3) = decide (joinI 10 (trB p1 p2) (trB p3 p4) = 2) := by
  revert d1 d2; cases p1 <;> cases p2 <;> cases p3 <;> cases p4 <;> decide
theorem k_bU (p1 p2 p3 p4 : Bool) (d1 : (p1 && p2) = false) (d2 : (p3 && p4) = false) : ((p1 || p2) && (p3 || p4) && !(p1 && p3)) = decide (joinI 10 (trB p1 p2) (trB p3 p4) = 1) := by
  revert d1 d2; cases p1 <;> cases p2 <;> cases p3 <;> cases p4 <;> decide
theorem k_eT (p1 p2 p3 p4 : Bool) (d1 : (p1 && p2) = false) (d2 : (p3 && p4) = false) : (p1 || p3) = decide (joinI 11 (trB p1 p2) (trB p3 p4) = 2) := by
  revert d1 d2; cases p1 <;> cases p2 <;> cases p3 <;> cases p4 <;> decide
theorem k_eU (p1 p2 p3 p4 : Bool) (d1 : (p1 && p2) = false) (d2 : (p3 && p4) = false) : ((p2 || p4) && !(p1 || p3)) = decide (joinI 11 (trB p1 p2) (trB p3 p4) = 1) := by
  revert d1 d2; cases p1 <;> cases p2 <;> cases p3 <;> cases p4 <;> decide
theorem k_nU (p1 p2 p3 p4 : Bool) (d1 : (p1 && p2) = false) : p2 = decide (joinI 12 (trB p1 p2) (trB p3 p4) = 1) := by
  revert d1; cases p1 <;> cases p2 <;> cases p3 <;> cases p4 <;> decide
theorem k_nT (p1 p2 p3 p4 : Bool) (d1 : (p1 && p2) = false) : standsB 1 (p1 || p2).toNat 0 = decide (joinI 12 (trB p1 p2) (trB p3 p4) = 2) := by
  revert d1; cases p1 <;> cases p2 <;> cases p3 <;> cases p4 <;> decide
theorem disj_bits {T U : List Nat} (h : disjW T U = true) (i : Nat) : (bitOf T i && bitOf U i) = false := by
  simp only [disjW, List.all_eq_true, List.mem_range, decide_eq_true_eq] at h
  unfold bitOf
  by_cases hi : i / 64 < T.length
  · have := h (i / 64) hi
    rw [← Nat.testBit_and, this, Nat.zero_testBit]
  · have h0 : T.getD (i / 64) 0 = 0 := L.getD_out _ (by omega)
    rw [h0, Nat.zero_testBit, Bool.false_and]
/-- what is known of a pair for m rows -/
structure PrM (m : Nat) (T U : List Nat) : Prop where
  lenT : T.length = L.nWords 1 m
  lenU : U.length = L.nWords 1 m
  endT : ∀ i, m ≤ i → bitOf T i = false
  endU : ∀ i, m ≤ i → bitOf U i = false
  disj : ∀ i, (bitOf T i && bitOf U i) = false
theorem prOk_nat {n : Int} {T U : List Nat} (h : prOk n T U = true) : ∃ m : Nat, n = m ∧ m ≤ 65536 ∧ PrM m T U := by
  unfold prOk at h
  simp only [Bool.and_eq_true] at h
  have hn : 0 ≤ n ∧ n ≤ 65536 := by
    rcases Classical.em (0 ≤ (1 : Int) ∧ (1 : Int) ≤ 64 ∧ 0 ≤ n ∧ n ≤ 65536) with h' | h'
    · exact ⟨h'.2.2.1, h'.2.2.2⟩
    · rw [okPack_not _ h'] at h; exact absurd h.1.1 (by simp)
  obtain ⟨m, rfl⟩ := Int.eq_ofNat_of_zero_le hn.1
  have e1 := (okPack_nat (wd := 1) (n := m) T (by decide) (by omega)).1 h.1.1
  have e2 := (okPack_nat (wd := 1) (n := m) U (by decide) (by omega)).1 h.1.2
  exact ⟨m, rfl, by omega, e1.1, e2.1, fun i hi => isPack_beyond e1 i hi, fun i hi => isPack_beyond e2 i hi, disj_bits h.2⟩
theorem words_bm (m q : Nat) (f : Nat → Nat) (F : Nat → Bool) (hq : q = L.nWords 1 m) (hlt : ∀ k, k < q → f k < 18446744073709551616) (hb : ∀ i, i < 64 * q → (f (i / 64)).testBit (i % 64) = (decide (i < m) && F i)) : wordsF q f = bmL ((List.range m).map F) := by
  refine IsBm.eq_bmL ⟨by rw [wordsF_len, hq], ?_, fun i hi => ?_⟩
  · intro x hx
    simp only [wordsF, List.mem_map, List.mem_range] at hx
    obtain ⟨k, hk, rfl⟩ := hx
    exact hlt k hk
  · rw [wordsF_len] at hi
    have : bitOf (wordsF q f) i = (f (i / 64)).testBit (i % 64) := by unfold bitOf; rw [wordsF_get q (i / 64) f (by omega)]
    rw [this, hb i hi]
theorem testBit_not64 (y p : Nat) (hy : y < 18446744073709551616) (hp : p < 64) : (18446744073709551615 - y).testBit p = !y.testBit p := by
  have h := Nat.testBit_two_pow_sub_succ (show y < 2 ^ 64 by omega) p
  rw [show 2 ^ 64 - (y + 1) = 18446744073709551615 - y by omega] at h
  rw [h]; simp [hp]
theorem bit_at (T : List Nat) (i : Nat) : (T.getD (i / 64) 0).testBit (i % 64) = bitOf T i := rfl
theorem both_T {m : Nat} {aT aU bT bU : List Nat} (ha : PrM m aT aU) (hb : PrM m bT bU) (v1 : ∀ x ∈ aT, x < 18446744073709551616) (v2 : ∀ x ∈ aU, x < 18446744073709551616) (v3 : ∀ x ∈ bT, x < 18446744073709551616) (v4 : ∀ x ∈ bU, x < 18446744073709551616) : wordsF (L.nWords 1 m) (bothTf aT bT) = bmL ((List.range m).map (kleF 10 2 aT aU bT bU)) := by
  refine words_bm m _ _ _ rfl (fun k _ => w64_and (getD_64 v1 k)) fun i hi => ?_
  rw [bothTf, Nat.testBit_and, bit_at, bit_at]
  by_cases him : i < m
  · have d1 := ha.disj i
    have d2 := hb.disj i
    simp only [him, decide_true, Bool.true_and, kleF, trU]
    exact k_bT _ _ _ _ d1 d2
  · rw [ha.endT i (by omega)]; simp [him]
theorem both_U {m : Nat} {aT aU bT bU : List Nat} (ha : PrM m aT aU) (hb : PrM m bT bU) (v1 : ∀ x ∈ aT, x < 18446744073709551616) (v2 : ∀ x ∈ aU, x < 18446744073709551616) (v3 : ∀ x ∈ bT, x < 18446744073709551616) (v4 : ∀ x ∈ bU, x < 18446744073709551616) : wordsF (L.nWords 1 m) (bothUf aT aU bT bU) = bmL ((List.range m).map (kleF 10 1 aT aU bT bU)) := by
  refine words_bm m _ _ _ rfl (fun k _ => w64_and (w64_and (w64_or (getD_64 v1 k) (getD_64 v2 k)))) fun i hi => ?_
  rw [bothUf, Nat.testBit_and, Nat.testBit_and, Nat.testBit_or, Nat.testBit_or, testBit_not64 _ _ (w64_and (getD_64 v1 _)) (by omega), Nat.testBit_and, bit_at, bit_at, bit_at, bit_at]
  by_cases him : i < m
  · have d1 := ha.disj i
    have d2 := hb.disj i
    simp only [him, decide_true, Bool.true_and, kleF, trU]
    exact k_bU _ _ _ _ d1 d2
  · rw [ha.endT i (by omega), ha.endU i (by omega)]; simp [him]
theorem either_T {m : Nat} {aT aU bT bU : List Nat} (ha : PrM m aT aU) (hb : PrM m bT bU) (v1 : ∀ x ∈ aT, x < 18446744073709551616) (v2 : ∀ x ∈ aU, x < 18446744073709551616) (v3 : ∀ x ∈ bT, x < 18446744073709551616) (v4 : ∀ x ∈ bU, x < 18446744073709551616) : wordsF (L.nWords 1 m) (eithTf aT bT) = bmL ((List.range m).map (kleF 11 2 aT aU bT bU)) := by
  refine words_bm m _ _ _ rfl (fun k _ => w64_or (getD_64 v1 k) (getD_64 v3 k)) fun i hi => ?_
  rw [eithTf, Nat.testBit_or, bit_at, bit_at]
  by_cases him : i < m
  · have d1 := ha.disj i
    have d2 := hb.disj i
    simp only [him, decide_true, Bool.true_and, kleF, trU]
    exact k_eT _ _ _ _ d1 d2
  · rw [ha.endT i (by omega), hb.endT i (by omega)]; simp [him]
theorem either_U {m : Nat} {aT aU bT bU : List Nat} (ha : PrM m aT aU) (hb : PrM m bT bU) (v1 : ∀ x ∈ aT, x < 18446744073709551616) (v2 : ∀ x ∈ aU, x < 18446744073709551616) (v3 : ∀ x ∈ bT, x < 18446744073709551616) (v4 : ∀ x ∈ bU, x < 18446744073709551616) : wordsF (L.nWords 1 m) (eithUf aT aU bT bU) = bmL ((List.range m).map (kleF 11 1 aT aU bT bU)) := by
  refine words_bm m _ _ _ rfl (fun k _ => w64_and (w64_or (getD_64 v2 k) (getD_64 v4 k))) fun i hi => ?_
  rw [eithUf, Nat.testBit_and, Nat.testBit_or, testBit_not64 _ _ (w64_or (getD_64 v1 _) (getD_64 v3 _)) (by omega), Nat.testBit_or, bit_at, bit_at, bit_at, bit_at]
  by_cases him : i < m
  · have d1 := ha.disj i
    have d2 := hb.disj i
    simp only [him, decide_true, Bool.true_and, kleF, trU]
    exact k_eU _ _ _ _ d1 d2
  · rw [ha.endU i (by omega), hb.endU i (by omega)]; simp [him]
theorem neg_U {m : Nat} {aT aU : List Nat} (bT bU : List Nat) (ha : PrM m aT aU) (hm : m ≤ 65536) (v1 : ∀ x ∈ aT, x < 18446744073709551616) (v2 : ∀ x ∈ aU, x < 18446744073709551616) : wordsF (L.nWords 1 m) (negUf aU) = bmL ((List.range m).map (kleF 12 1 aT aU bT bU)) := by
  refine words_bm m _ _ _ rfl (fun k _ => getD_64 v2 k) fun i hi => ?_
  rw [negUf, bit_at]
  by_cases him : i < m
  · have d1 := ha.disj i
    simp only [him, decide_true, Bool.true_and, kleF, trU]
    exact k_nU _ _ _ _ d1
  · rw [ha.endU i (by omega)]; simp [him]
theorem neg_T {m : Nat} {aT aU : List Nat} (bT bU : List Nat) (ha : PrM m aT aU) (hm : m ≤ 65536) (v1 : ∀ x ∈ aT, x < 18446744073709551616) (v2 : ∀ x ∈ aU, x < 18446744073709551616) : cmpR 1 m 1 (wordsF (L.nWords 1 m) (negTf aT aU)) 0 = bmL ((List.range m).map (kleF 12 2 aT aU bT bU)) := by
  have hbit : ∀ i, i < 64 * L.nWords 1 m → bitOf (wordsF (L.nWords 1 m) (negTf aT aU)) i = (bitOf aT i || bitOf aU i) := fun i hi => by
    unfold bitOf
    rw [wordsF_get _ _ _ (by omega), negTf, Nat.testBit_or]
  have hbm : IsBm m (wordsF (L.nWords 1 m) (negTf aT aU)) (fun i => bitOf aT i || bitOf aU i) := by
    refine ⟨by rw [wordsF_len], negT_lt _ _ _ v1 v2, fun i hi => ?_⟩
    rw [wordsF_len] at hi
    rw [hbit i hi]
    by_cases him : i < m
    · simp [him]
    · simp [him, ha.endT i (by omega), ha.endU i (by omega)]
  have hok : cmpOk 1 m 1 (wordsF (L.nWords 1 m) (negTf aT aU)) = true := by
    have hp : okPack 1 (m : Int) (wordsF (L.nWords 1 m) (negTf aT aU)) = true := by
      refine (okPack_nat (wd := 1) (n := m) _ (by decide) hm).2 ?_
      have h := L.pack_isPack (w := 1) (by omega) (((List.range m).map fun i => bitOf aT i || bitOf aU i).map Bool.toNat) (toNat_lt _)
      rw [List.length_map, List.length_map, List.length_range] at h
      rw [hbm.eq_bmL]; exact h
    rw [cmpOk, hp]; rfl
  rw [cmpR, if_pos hok, Int.toNat_natCast]
  congr 1
  apply List.map_congr_left
  intro i hi
  have him := List.mem_range.1 hi
  have hq := nWords1_le m
  rw [cmpF, show (1 : Int).toNat = 1 from rfl, laneOf_one, hbit i (by omega)]
  have d1 := ha.disj i
  simp only [kleF, trU]
  clear hbm hok hbit
  exact k_nT _ _ _ _ d1
end Go.Proofs.YtinkbgnhigpkeaaDoor
