/- A body that a look finds valid is valid. -/
import Derived.Test.YtdlkdiaobbakiaaGreatDoorValid
import Derived.Test.YtdlkdiaobbakiaaGreatDoorValidI
import Derived.Test.YtdlkdiaobbakiaaGreatDoorDecS
set_option linter.unusedVariables false
set_option linter.unusedSimpArgs false
set_option linter.unnecessarySimpa false
set_option maxRecDepth 20000
namespace Go.Proofs.YtdlkdiaobbakiaaGreatDoor
open Go.RowKit

theorem valid_S (rows : Nat) (xs : List Nat) (hb : ∀ x ∈ xs, x < 256) (hl : xs.length ≤ 1048576) (hrr : rows ≤ 65536) (h : lkOk_S rows xs = true) : Valid_S rows xs := by
  unfold lkOk_S headOk at h
  simp only [Bool.and_eq_true, Bool.not_eq_true', decide_eq_true_eq] at h
  obtain ⟨⟨hpk, hcd⟩, hOb, hOs, hOl⟩ := h
  have hnl := ((okPack_nat (wd := 1) (n := rows) _ (by decide) hrr).1 hpk).1
  rw [nWords1] at hnl
  have hx3 : (headOf rows xs).left.length ≤ 1048576 := Nat.le_trans (tkL_le _ _) (Nat.le_trans (tkL_le _ _) (Nat.le_trans (tkL_le _ _) hl))
  have hb3 : ∀ x ∈ (headOf rows xs).left, x < 256 := tkL_lt (tkL_lt (tkL_lt hb))
  have hnv : ∀ x ∈ (headOf rows xs).nulls, x < 18446744073709551616 := numL_lt (tk_lt (tkL_lt (tkL_lt hb))) (by omega)
  have key : (lkOut_S rows xs).list.length ≤ 1048576 ∧ (lkOut_S rows xs).ends.length ≤ 1048576 ∧ (∀ x ∈ (lkOut_S rows xs).lanes, x < 18446744073709551616) ∧
      ∀ j, j < cntOf rows (headOf rows xs).nulls → okv_S (headOf rows xs).codec (headOf rows xs).wd (lkOut_S rows xs).list (lkOut_S rows xs).ends (lkOut_S rows xs).lanes j := by
    unfold lkOut_S at *
    generalize cntOf rows (headOf rows xs).nulls = k at *
    generalize (headOf rows xs).left = x3 at *
    generalize (headOf rows xs).short = t3 at *
    generalize (headOf rows xs).codec = cd at *
    generalize (headOf rows xs).wd = wd at *
    have hcdk : 1 ≤ cd ∧ cd ≤ 3 := by
      unfold isCodec at hcd
      split at hcd
      · omega
      · simp only [decide_eq_true_eq] at hcd; unfold knum_S at hcd; omega
    unfold outPay_S at *
    by_cases h1 : cd = 1
    · subst h1
      rw [if_pos rfl] at *
      unfold outPlain_S at *
      simp only [Bool.and_eq_true, decide_eq_true_eq] at *
      have hf := rd_full_S hOb.1 hOs
      exact ⟨rd_len_S _ _ _ hx3, by simp, by simp, fun j hj => .inl ⟨rfl, by rw [hf]; exact hj⟩⟩
    by_cases h2 : cd = 2
    · subst h2
      rw [if_neg (by decide), if_pos rfl] at *
      unfold outDict_S at *
      split at hOb
      · cases hOb
      · rename_i hc
        rw [if_neg hc] at *
        have hxl1 : (tkL 4 x3).length ≤ 1048576 := Nat.le_trans (tkL_le _ _) hx3
        have hxb1 : ∀ x ∈ tkL 4 x3, x < 256 := tkL_lt hb3
        have hrl := rd_len_S (L.wordOf 8 (tk 4 x3)) (tkL 4 x3) (tkS 4 x3 t3) hxl1
        have hrb := (rd_left_S (L.wordOf 8 (tk 4 x3)) (tkL 4 x3) (tkS 4 x3 t3)).2 256 hxb1
        have hfl := @rd_full_S (L.wordOf 8 (tk 4 x3)) (tkL 4 x3) (tkS 4 x3 t3)
        generalize rdS (L.wordOf 8 (tk 4 x3)) (tkL 4 x3) (tkS 4 x3 t3) = R at *
        generalize L.wordOf 8 (tk 4 x3) = d at *
        obtain ⟨vals, ok, xl, s1⟩ := R
        simp only at *
        split at hOb
        · rename_i hoa
          rw [if_pos hoa] at *
          simp only at *
          obtain ⟨l1, l2, l3, l4⟩ := lanesB_true hOb
          have hs1 := (tkS_false hOs).2
          have hvl := hfl (by simp only [Bool.and_eq_true] at hoa; exact hoa.1) hs1
          refine ⟨hrl, by simp, restW_lt hrb, fun j hj => .inr (.inl ⟨rfl, ?_, l1, fun h0 => pack_bound l1 l3 j hj h0⟩)⟩
          have := l4 j hj
          unfold standsB at this
          simp at this
          omega
        · cases hOb
    · obtain rfl : cd = 3 := by omega
      rw [if_neg (by decide), if_neg (by decide)] at *
      unfold outRuns_S at *
      split at hOb
      · cases hOb
      · rename_i hc
        rw [if_neg hc] at *
        have hxl1 : (tkL 4 x3).length ≤ 1048576 := Nat.le_trans (tkL_le _ _) hx3
        have hxl2 : (tkL (4 * L.wordOf 8 (tk 4 x3)) (tkL 4 x3)).length ≤ 1048576 := Nat.le_trans (tkL_le _ _) hxl1
        have hrl := rd_len_S (L.wordOf 8 (tk 4 x3)) (tkL (4 * L.wordOf 8 (tk 4 x3)) (tkL 4 x3)) (tkS (4 * L.wordOf 8 (tk 4 x3)) (tkL 4 x3) (tkS 4 x3 t3)) hxl2
        have hfl := @rd_full_S (L.wordOf 8 (tk 4 x3)) (tkL (4 * L.wordOf 8 (tk 4 x3)) (tkL 4 x3)) (tkS (4 * L.wordOf 8 (tk 4 x3)) (tkL 4 x3) (tkS 4 x3 t3))
        have hsh := rd_short_S (L.wordOf 8 (tk 4 x3)) (tkL (4 * L.wordOf 8 (tk 4 x3)) (tkL 4 x3)) (tkS (4 * L.wordOf 8 (tk 4 x3)) (tkL 4 x3) (tkS 4 x3 t3))
        have hen := endsN_len (4 * L.wordOf 8 (tk 4 x3)) (tkL 4 x3) hxl1
        have hel : tkS (4 * L.wordOf 8 (tk 4 x3)) (tkL 4 x3) (tkS 4 x3 t3) = false → (numL 4 (tk (4 * L.wordOf 8 (tk 4 x3)) (tkL 4 x3))).length = L.wordOf 8 (tk 4 x3) := fun h => by
          rw [numL_length, tk_len (tkS_false h).1]; omega
        generalize rdS (L.wordOf 8 (tk 4 x3)) (tkL (4 * L.wordOf 8 (tk 4 x3)) (tkL 4 x3)) (tkS (4 * L.wordOf 8 (tk 4 x3)) (tkL 4 x3) (tkS 4 x3 t3)) = R at *
        generalize numL 4 (tk (4 * L.wordOf 8 (tk 4 x3)) (tkL 4 x3)) = es at *
        generalize tkS (4 * L.wordOf 8 (tk 4 x3)) (tkL 4 x3) (tkS 4 x3 t3) = s2 at *
        generalize L.wordOf 8 (tk 4 x3) = d at *
        obtain ⟨vals, ok, xl, s1⟩ := R
        simp only [Bool.and_eq_true] at *
        have hvl := hfl hOb.1 hOs
        have hed := hel (hsh hOs)
        have hre : runEnds (nI es) k = true := by
          cases hx : runEnds (nI es) k with
          | true => rfl
          | false => exact absurd (.inr hx) hc
        refine ⟨hrl, hen, by simp, fun j hj => .inr (.inr ⟨rfl, ?_, runEnds_asc hre⟩)⟩
        have := firstGe_lt hre ((j : Int) + 1) (by omega) (by omega)
        rw [nI_length, hed] at this
        rw [hvl]; exact this
  exact ⟨hnl, hnv, key.1, key.2.1, key.2.2.1, key.2.2.2⟩
end Go.Proofs.YtdlkdiaobbakiaaGreatDoor
