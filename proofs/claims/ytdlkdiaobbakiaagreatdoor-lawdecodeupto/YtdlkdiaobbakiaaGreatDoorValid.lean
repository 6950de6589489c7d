/- What a body that a look finds valid has: plain mathematics. -/
import Derived.Test.YtdlkdiaobbakiaaGreatDoorDecI
set_option linter.unusedVariables false
set_option linter.unusedSimpArgs false
set_option linter.unnecessarySimpa false
set_option maxRecDepth 20000
namespace Go.Proofs.YtdlkdiaobbakiaaGreatDoor
open Go.RowKit

theorem tkS_false {n : Nat} {xs : List Nat} {s : Bool} (h : tkS n xs s = false) : n ≤ xs.length ∧ s = false := by
  unfold tkS at h; split at h
  · rename_i hn; exact ⟨hn, h⟩
  · cases h
theorem tk_len {n : Nat} {xs : List Nat} (h : n ≤ xs.length) : (tk n xs).length = n := by unfold tk; rw [if_pos h, List.length_take]; omega
theorem rd_full_I {c : Nat} {xs : List Nat} {s : Bool} (h : (rdI c xs s).2.1 = true) (h2 : (rdI c xs s).2.2.2 = false) : (rdI c xs s).1.length = c := by
  unfold rdI at h2 ⊢
  obtain ⟨h3, _⟩ := tkS_false h2
  simp only [List.length_map, numL_length, tk_len h3]
  omega
theorem rd_full_S {c : Nat} {xs : List Nat} {s : Bool} (h : (rdS c xs s).2.1 = true) (h2 : (rdS c xs s).2.2.2 = false) : (rdS c xs s).1.length = c := by
  unfold rdS at h ⊢
  simp only at h ⊢
  split at h
  · cases h
  · split at h
    · cases h
    · rename_i sz hsz hs
      have hs2 : tkS sz.toNat (tkL (4 * c) xs) (tkS (4 * c) xs s) = false := by simpa using hs
      obtain ⟨h3, _⟩ := tkS_false (tkS_false hs2).2
      rw [if_neg hs]
      rw [cutS_length, nI_length, numL_length, tk_len h3]
      omega

theorem rd_short_I (c : Nat) (xs : List Nat) (s : Bool) (h : (rdI c xs s).2.2.2 = false) : s = false := (tkS_false h).2
theorem rd_short_S (c : Nat) (xs : List Nat) (s : Bool) (h : (rdS c xs s).2.2.2 = false) : s = false := by
  unfold rdS at h
  simp only at h
  split at h
  · exact (tkS_false h).2
  · split at h
    · cases h
    · rename_i sz hsz hs
      exact (tkS_false (tkS_false (by simpa using hs)).2).2
theorem bmL_rank0 {fl : List Bool} (h : rankN (bmL fl) fl.length = 0) (j : Nat) (hj : j < fl.length) : fl.getD j false = false := by
  unfold rankN at h
  have h1 : bitOf (bmL fl) j = false := by
    have h2 := List.filter_eq_nil_iff.1 (List.eq_nil_of_length_eq_zero h) j (List.mem_range.2 hj)
    simpa using h2
  have hb := (bmL_isBm fl).2.2 j (by rw [(bmL_isBm fl).1]; have := nWords1_le fl.length; omega)
  rw [h1] at hb
  simpa [hj] using hb.symm
/-- lanes that are found in order -/
theorem lanesB_true {wd k : Nat} {op : Int} {ws : List Nat} {lim : Nat} (h : lanesB wd k op ws lim = true) : wd ≤ 64 ∧ k ≤ 65536 ∧ L.IsPack wd k ws ∧ ∀ j, j < k → standsB op (L.laneOf wd ws j) lim = false := by
  unfold lanesB at h
  rw [Bool.and_eq_true] at h
  obtain ⟨h1, h2⟩ := h
  have h3 : okPack wd k ws = true := by unfold cmpOk at h1; rw [Bool.and_eq_true] at h1; exact h1.2
  have h4 : wd ≤ 64 ∧ k ≤ 65536 := by
    unfold okPack okLim at h3; simp only [Bool.and_eq_true, decide_eq_true_eq] at h3; omega
  have h5 := (okPack_nat ws h4.1 h4.2).1 h3
  refine ⟨h4.1, h4.2, h5, fun j hj => ?_⟩
  rw [cmpR, if_pos h1] at h2
  have hfl : ((List.range (k : Int).toNat).map (cmpF (wd : Int).toNat op ws lim)).length = k := by simp
  have h6 : okPack 1 k (bmL ((List.range (k : Int).toNat).map (cmpF (wd : Int).toNat op ws lim))) = true := by
    refine (okPack_nat _ (by decide) h4.2).2 ?_
    have := L.pack_isPack (w := 1) (by omega) (((List.range (k : Int).toNat).map (cmpF (wd : Int).toNat op ws lim)).map Bool.toNat) (toNat_lt _)
    rwa [List.length_map, hfl] at this
  rw [rankR, if_pos ⟨h6, by omega, by omega⟩] at h2
  have h7 : rankN (bmL ((List.range (k : Int).toNat).map (cmpF (wd : Int).toNat op ws lim))) k = 0 := by simpa using h2
  have h8 := bmL_rank0 (fl := (List.range (k : Int).toNat).map (cmpF (wd : Int).toNat op ws lim)) (by rw [hfl]; exact h7) j (by rw [hfl]; exact hj)
  simpa [List.getD, List.getElem?_map, List.getElem?_range hj, cmpF] using h8
theorem pack_bound {wd k : Nat} {ws : List Nat} (hw : wd ≤ 64) (h : L.IsPack wd k ws) (j : Nat) (hj : j < k) (h0 : 0 < wd) : j / (64 / wd) < ws.length := by
  rw [h.1, L.lt_nWords h0 hw]
  exact Nat.lt_of_le_of_lt (Nat.div_mul_le_self _ _) hj

theorem endsUp_gt (es : List Int) : ∀ l k, endsUp l es = some k → ∀ i, i < es.length → l < es.getD i 0 := by
  induction es with
  | nil => intro l k h i hi; simp at hi
  | cons e r ih =>
    intro l k h i hi
    simp only [endsUp] at h
    split at h
    · cases h
    · rename_i hc
      cases i with
      | zero => simp; omega
      | succ i => have := ih e k h i (by simpa using hi); simp only [List.getD_cons_succ]; omega
theorem endsUp_asc (es : List Int) : ∀ l k, endsUp l es = some k → ∀ a b, a < b → b < es.length → es.getD a 0 < es.getD b 0 := by
  induction es with
  | nil => intro l k h a b hab hb; simp at hb
  | cons e r ih =>
    intro l k h a b hab hb
    simp only [endsUp] at h
    split at h
    · cases h
    · cases b with
      | zero => omega
      | succ b =>
        cases a with
        | zero => have := endsUp_gt r e k h b (by simpa using hb); simpa using this
        | succ a => have := ih e k h a b (by omega) (by simpa using hb); simpa using this
theorem endsUp_last (es : List Int) : ∀ l k, endsUp l es = some k → (es = [] ∧ k = l) ∨ k ∈ es := by
  induction es with
  | nil => intro l k h; simp [endsUp] at h; exact .inl ⟨rfl, h.symm⟩
  | cons e r ih =>
    intro l k h
    simp only [endsUp] at h
    split at h
    · cases h
    · rcases ih e k h with ⟨h1, h2⟩ | h1
      · subst h2; exact .inr (by simp)
      · exact .inr (by simp [h1])
theorem firstGe_lt {es : List Int} {k : Int} (h : runEnds es k = true) (t : Int) (h0 : 0 < t) (ht : t ≤ k) : firstGe es t < es.length := by
  have h1 : endsUp 0 es = some k := by simpa [runEnds] using h
  unfold firstGe
  rw [List.findIdx_lt_length]
  rcases endsUp_last es 0 k h1 with ⟨h2, h3⟩ | h2
  · omega
  · exact ⟨k, h2, by simpa using ht⟩
theorem runEnds_asc {es : List Int} {k : Int} (h : runEnds es k = true) : ∀ a b, a < b → b < es.length → es.getD a 0 < es.getD b 0 := by
  have h1 : endsUp 0 es = some k := by simpa [runEnds] using h
  exact endsUp_asc es 0 k h1
end Go.Proofs.YtdlkdiaobbakiaaGreatDoor
