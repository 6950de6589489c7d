/- Package kernel: filter of one kind (strings). -/
import Derived.Test.YthonbfojpbfmgaaGreatDoorLawfoldsplitB29
import Derived.Test.YthonbfojpbfmgaaGreatDoorLawfoldsplitB21
import Derived.Test.YthonbfojpbfmgaaGreatDoorLawfoldsplitB13
import Derived.Test.YthonbfojpbfmgaaGreatDoorLawfoldsplitB25
import Derived.Test.YthonbfojpbfmgaaGreatDoorLawfoldsplitB19
import Derived.Test.YthonbfojpbfmgaaGreatDoorLawfoldsplitB26
import Derived.Test.YthonbfojpbfmgaaGreatDoorLawfoldsplitB5
import Derived.Test.YthonbfojpbfmgaaGreatDoorLawfoldsplitB27
import Derived.Test.YthonbfojpbfmgaaGreatDoorLawfoldsplitB14
import Derived.Test.YthonbfojpbfmgaaGreatDoorLawfoldsplitB15
import Derived.Test.YthonbfojpbfmgaaGreatDoorLawfoldsplitB28
set_option linter.unusedVariables false
set_option linter.unusedSimpArgs false
set_option linter.unnecessarySimpa false
set_option maxRecDepth 100000
namespace Go.Proofs.YthonbfojpbfmgaaGreatDoor
open Go.RowKit

/-- what a row holds that is not NULL -/
def rowV_S (rows : Nat) (xs : List Nat) (r : Nat) : ByteArray := vAt_S rows xs (r - rankN (headOf rows xs).nulls (r + 1))

/-- what a body that is valid has, for a filter -/
structure FilD_S (rows : Nat) (xs : List Nat) : Prop where
  pk : okPack 1 rows (headOf rows xs).nulls = true
  hd : HitD_S (headOf rows xs).codec (headOf rows xs).wd (cntOf rows (headOf rows xs).nulls) (lkOut_S rows xs).list (lkOut_S rows xs).ends (lkBase_S rows xs) (lkOut_S rows xs).lanes
end Go.Proofs.YthonbfojpbfmgaaGreatDoor

/- Package kernel: Filter. -/
set_option linter.unusedVariables false
set_option linter.unusedSimpArgs false
set_option linter.unnecessarySimpa false
set_option maxRecDepth 100000
namespace Go.Proofs.YthonbfojpbfmgaaGreatDoor
open Go.RowKit

end Go.Proofs.YthonbfojpbfmgaaGreatDoor

/- A body that a look finds valid has what a filter asks (strings). -/
set_option linter.unusedVariables false
set_option linter.unusedSimpArgs false
set_option linter.unnecessarySimpa false
set_option maxRecDepth 20000
namespace Go.Proofs.YthonbfojpbfmgaaGreatDoor
open Go.RowKit

theorem asc_geS {vals : List ByteArray} (h : noPair geS vals = true) : ∀ a b, a < b → b < vals.length → ltS (vals.getD a ByteArray.empty) (vals.getD b ByteArray.empty) = true := by
  have h1 := (noPair_iff geS ByteArray.empty vals).1 h
  intro a b hab
  induction b with
  | zero => omega
  | succ b ih =>
    intro hb
    have h2 := h1 b hb
    unfold geS at h2
    have h3 : ltS (vals.getD b ByteArray.empty) (vals.getD (b + 1) ByteArray.empty) = true := by simpa using h2
    by_cases he : a = b
    · subst he; exact h3
    · exact ltS_trans (ih (by omega) (by omega)) h3
theorem filD_S (rows : Nat) (xs : List Nat) (hb : ∀ x ∈ xs, x < 256) (hl : xs.length ≤ 16777216) (hrr : rows ≤ 65536) (h : lkOk_S rows xs = true) : FilD_S rows xs := by
  unfold lkOk_S headOk at h
  simp only [Bool.and_eq_true, Bool.not_eq_true', decide_eq_true_eq] at h
  obtain ⟨⟨hpk, hcd⟩, hOb, hOs, hOl⟩ := h
  refine ⟨hpk, ?_⟩
  have hx3 : (headOf rows xs).left.length ≤ 16777216 := Nat.le_trans (tkL_le _ _) (Nat.le_trans (tkL_le _ _) (Nat.le_trans (tkL_le _ _) hl))
  have hb3 : ∀ x ∈ (headOf rows xs).left, x < 256 := tkL_lt (tkL_lt (tkL_lt hb))
  have hk6 : cntOf rows (headOf rows xs).nulls ≤ 65536 := by unfold cntOf; omega
  unfold lkOut_S lkBase_S at *
  generalize cntOf rows (headOf rows xs).nulls = k at *
  generalize (headOf rows xs).left = x3 at *
  generalize (headOf rows xs).short = t3 at *
  generalize (headOf rows xs).codec = cd at *
  generalize (headOf rows xs).wd = wd at *
  have hcdk : 1 ≤ cd ∧ cd ≤ 3 := by
    unfold isCodec at hcd
    split at hcd
    · omega
    · simp only [decide_eq_true_eq] at hcd; unfold knum_S at hcd; omega
  unfold outPay_S at *
  by_cases h1 : cd = 1
  · subst h1
    rw [if_pos rfl] at *
    unfold outPlain_S at *
    simp only [Bool.and_eq_true, decide_eq_true_eq] at *
    exact .inl ⟨rfl, rd_full_S hOb.1 hOs, hk6⟩
  by_cases h2 : cd = 2
  · subst h2
    rw [if_neg (by decide), if_pos rfl] at *
    unfold outDict_S at *
    split at hOb
    · cases hOb
    · rename_i hc
      rw [if_neg hc] at *
      have hxl1 : (tkL 4 x3).length ≤ 16777216 := Nat.le_trans (tkL_le _ _) hx3
      have hxb1 : ∀ x ∈ tkL 4 x3, x < 256 := tkL_lt hb3
      have hrb := (rd_left_S (L.wordOf 8 (tk 4 x3)) (tkL 4 x3) (tkS 4 x3 t3)).2 256 hxb1
      have hlb := (rd_left_S (L.wordOf 8 (tk 4 x3)) (tkL 4 x3) (tkS 4 x3 t3)).1
      have hfl := @rd_full_S (L.wordOf 8 (tk 4 x3)) (tkL 4 x3) (tkS 4 x3 t3)
      generalize rdS (L.wordOf 8 (tk 4 x3)) (tkL 4 x3) (tkS 4 x3 t3) = R at *
      generalize L.wordOf 8 (tk 4 x3) = dd at *
      obtain ⟨vals, ok, xl, s1⟩ := R
      simp only at *
      split at hOb
      · rename_i hoa
        rw [if_pos hoa] at *
        simp only at *
        obtain ⟨l1, l2, l3, l4⟩ := lanesB_true hOb
        have hs1 := (tkS_false hOs).2
        simp only [Bool.and_eq_true] at hoa
        have hvl := hfl hoa.1 hs1
        refine .inr (.inr ⟨.inl rfl, by first | trivial | rfl, (okPack_nat _ l1 l2).2 l3, restW_lt hrb, ?_, by omega, hk6, fun _ => asc_geS hoa.2, fun _ j hj => ?_, ?_, fun hh => absurd rfl hh⟩)
        · rw [restW_len]; omega
        · have := l4 j hj
          unfold standsB at this
          simp at this
          omega
        · unfold okI; simp
      · cases hOb
  · obtain rfl : cd = 3 := by omega
    rw [if_neg (by decide), if_neg (by decide)] at *
    unfold outRuns_S at *
    split at hOb
    · cases hOb
    · rename_i hc
      rw [if_neg hc] at *
      have hfl := @rd_full_S (L.wordOf 8 (tk 4 x3)) (tkL (4 * L.wordOf 8 (tk 4 x3)) (tkL 4 x3)) (tkS (4 * L.wordOf 8 (tk 4 x3)) (tkL 4 x3) (tkS 4 x3 t3))
      have hsh := rd_short_S (L.wordOf 8 (tk 4 x3)) (tkL (4 * L.wordOf 8 (tk 4 x3)) (tkL 4 x3)) (tkS (4 * L.wordOf 8 (tk 4 x3)) (tkL 4 x3) (tkS 4 x3 t3))
      have hel : tkS (4 * L.wordOf 8 (tk 4 x3)) (tkL 4 x3) (tkS 4 x3 t3) = false → (numL 4 (tk (4 * L.wordOf 8 (tk 4 x3)) (tkL 4 x3))).length = L.wordOf 8 (tk 4 x3) := fun h => by
        rw [numL_length, tk_len (tkS_false h).1]; omega
      generalize rdS (L.wordOf 8 (tk 4 x3)) (tkL (4 * L.wordOf 8 (tk 4 x3)) (tkL 4 x3)) (tkS (4 * L.wordOf 8 (tk 4 x3)) (tkL 4 x3) (tkS 4 x3 t3)) = R at *
      generalize numL 4 (tk (4 * L.wordOf 8 (tk 4 x3)) (tkL 4 x3)) = es at *
      generalize tkS (4 * L.wordOf 8 (tk 4 x3)) (tkL 4 x3) (tkS 4 x3 t3) = s2 at *
      generalize L.wordOf 8 (tk 4 x3) = dd at *
      obtain ⟨vals, ok, xl, s1⟩ := R
      simp only [Bool.and_eq_true] at *
      have hvl := hfl hOb.1 hOs
      have hed := hel (hsh hOs)
      have hre : runEnds (nI es) k = true := by
        cases hx : runEnds (nI es) k with
        | true => rfl
        | false => exact absurd (.inr hx) hc
      obtain ⟨r1, r2, r3⟩ := runs_nat hre hk6
      exact .inr (.inl ⟨rfl, by rw [hvl, hed], hk6, r1, r2, r3⟩)
end Go.Proofs.YthonbfojpbfmgaaGreatDoor

/- Package kernel: Filter in the document's words. -/
set_option linter.unusedVariables false
set_option linter.unusedSimpArgs false
set_option linter.unnecessarySimpa false
set_option maxRecDepth 100000
namespace Go.Proofs.YthonbfojpbfmgaaGreatDoor
open Go.RowKit

theorem bits_eq {n : Nat} {F : Nat → Bool} {zs : List Nat} {fl : List Bool} (h : BitsOf n F zs) (hl : fl.length = n) (hf : ∀ r, r < n → fl.getD r false = F r) : zs = bmL fl := by
  obtain ⟨h1, h2, h3⟩ := h
  obtain ⟨b1, b2, b3⟩ := bmL_isBm fl
  rw [hl] at b1 b3
  rw [nWords1k] at b1
  refine bm_ext (by rw [h1, b1]) h2 b2 (fun i hi => ?_)
  rw [h3, b3 i (by rw [b1, ← h1]; exact hi)]
  show (decide (i < n) && F i) = (decide (i < n) && fl.getD i false)
  by_cases hn : i < n
  · rw [hf i hn]
  · simp [hn]
theorem cells_I {rows : Nat} {xs : List Nat} (hrr : rows ≤ 65536) (hok : rOk 1 rows xs = true) {r : Nat} (hr : r < rows) : cA (rWs rows xs) r = bitOf (headOf rows xs).nulls r ∧ (bitOf (headOf rows xs).nulls r = false → (cB (rWs rows xs) (rPay 1 rows xs).2 r, cC (rWs rows xs) (rPay 1 rows xs).2 r) = pI (rowV_I rows xs r)) := by
  obtain ⟨m1, m2, m3⟩ := (meet_I rows xs hrr).2 hok r hr
  refine ⟨m1.symm, fun h => ?_⟩
  rw [← m2, ← m3]
  unfold cellB_I cellC_I rowV_I pI cB_I cC_I
  rw [h]
  rfl
theorem cells_S {rows : Nat} {xs : List Nat} (hrr : rows ≤ 65536) (hok : rOk 2 rows xs = true) {r : Nat} (hr : r < rows) : cA (rWs rows xs) r = bitOf (headOf rows xs).nulls r ∧ (bitOf (headOf rows xs).nulls r = false → (cB (rWs rows xs) (rPay 2 rows xs).2 r, cC (rWs rows xs) (rPay 2 rows xs).2 r) = pS (rowV_S rows xs r)) := by
  obtain ⟨m1, m2, m3⟩ := (meet_S rows xs hrr).2 hok r hr
  refine ⟨m1.symm, fun h => ?_⟩
  rw [← m2, ← m3]
  unfold cellB_S cellC_S rowV_S pS cB_S cC_S
  rw [h]
  rfl
end Go.Proofs.YthonbfojpbfmgaaGreatDoor

/- The Part that the code tells is the Part that the plain answer tells (integers). -/
set_option linter.unusedVariables false
set_option linter.unusedSimpArgs false
set_option linter.unnecessarySimpa false
set_option maxRecDepth 20000
namespace Go.Proofs.YthonbfojpbfmgaaGreatDoor
open Go.RowKit

theorem flat_map_I (ps : List (Int × Nat)) : flatT (ps.map eP_I) = (ps.flatMap fun p => List.replicate p.2 p.1).map vC_I := by
  unfold flatT eP_I
  rw [List.flatMap_map, List.map_flatMap]
  simp
/-- the tally's values are the chosen ones, in another order -/
theorem tallyPerm_I (codec wd : Nat) (list : List Int) (ends : List Nat) (base : Int) (lanes js : List Nat) (h : TlD_I codec wd list ends lanes js) :
    (flatT ((tallyP_I codec wd list ends base lanes js).map eP_I)).Perm (js.map fun j => vC_I (vl_I codec wd list ends base lanes j)) := by
  rw [flat_map_I]
  rw [show (js.map fun j => vC_I (vl_I codec wd list ends base lanes j)) = (js.map fun j => vl_I codec wd list ends base lanes j).map vC_I by simp]
  refine List.Perm.map _ ?_
  unfold tallyP_I
  by_cases h2 : codec = 2
  · rw [if_pos h2]
    subst h2
    refine (shL_perm dfI list (L.laneOf wd lanes) js list.length (fun j hj => (h.two rfl j hj).2.1)).trans (List.Perm.of_eq ?_)
    apply List.map_congr_left
    intro j _
    unfold vl_I val_I
    simp
  by_cases h3 : codec = 3
  · rw [if_neg h2, if_pos h3]
    subst h3
    refine (shL_perm dfI list (runOf ends) js list.length (fun j hj => by
      have := (h.three rfl).2.2 j hj
      have h9 := (h.three rfl).2.1
      unfold runOf
      omega)).trans (List.Perm.of_eq ?_)
    apply List.map_congr_left
    intro j _
    unfold vl_I val_I runOf
    simp
  · rw [if_neg h2, if_neg h3]
    refine List.Perm.of_eq ?_
    clear h
    induction js with
    | nil => rfl
    | cons j r ih => simpa using ih
theorem chosenV_I {rows : Nat} {xs sel : List Nat} (hb : ∀ x ∈ xs, x < 256) (hl : xs.length ≤ 16777216) (hrr : rows ≤ 65536) (h : lkOk_I rows xs = true) (hsr : ∀ r, bitOf sel r = true → r < rows) (hsl : sel.length = (rows + 63) / 64) :
    (rfoVals 1 rows xs sel).map pcC = (chosenN sel (headOf rows xs).nulls (64 * sel.length)).map fun j => vC_I (vl_I (headOf rows xs).codec (headOf rows xs).wd (lkOut_I rows xs).list (lkOut_I rows xs).ends (lkBase_I rows xs) (lkOut_I rows xs).lanes j) := by
  have hV := valid_I rows xs hb hl hrr h
  have hok : rOk 1 rows xs = true := by rw [← (meet_I rows xs hrr).1]; exact h
  unfold rfoVals selV chosenN idxN
  rw [Int.toNat_natCast, show (1 : Int).toNat = 1 from rfl, List.map_map, List.map_map]
  rw [filter_range (m := 64 * sel.length) (n := rows) (bitOf (cmb sel (headOf rows xs).nulls)) (by omega) (fun r hr => by
    rw [cmb_bit sel _ hV.nv, Bool.and_eq_true] at hr
    exact hsr r hr.1)]
  have e1 : (List.range rows).filter (fun r => bitOf sel r && !cA (rWs rows xs) r) = (List.range rows).filter (bitOf (cmb sel (headOf rows xs).nulls)) := by
    apply List.filter_congr
    intro r hr
    rw [cmb_bit sel _ hV.nv, (cells_I hrr hok (List.mem_range.1 hr)).1]
  rw [e1]
  apply List.map_congr_left
  intro r hr
  rw [List.mem_filter, List.mem_range, cmb_bit sel _ hV.nv, Bool.and_eq_true, Bool.not_eq_true'] at hr
  have := (cells_I hrr hok hr.1).2 hr.2.2
  simp only [Function.comp]
  rw [this]
  rfl
theorem foD_I (rows : Nat) (xs sel : List Nat) (hb : ∀ x ∈ xs, x < 256) (hl : xs.length ≤ 16777216) (hrr : rows ≤ 65536) (hsr : ∀ r, bitOf sel r = true → r < rows) (hsl : sel.length = (rows + 63) / 64) (h : lkOk_I rows xs = true) : FoD_I rows xs sel := by
  have hV := valid_I rows xs hb hl hrr h
  have hT := tlD_I rows xs sel hb hl hrr h hsr
  have hlen := chosenN_len sel (headOf rows xs).nulls (64 * sel.length)
  have hN := tallyN_I (headOf rows xs).codec (headOf rows xs).wd (lkOut_I rows xs).list (lkOut_I rows xs).ends (lkBase_I rows xs) (lkOut_I rows xs).lanes _ (listV_I rows xs) (fun j hj => (hT.jj j hj).2)
  refine ⟨hT, hV.nl, hV.nv, fun p hp => ?_⟩
  obtain ⟨h1, _, h3⟩ := hN p hp
  exact ⟨h1, by omega⟩
theorem foldEq_I (rows : Nat) (xs sel : List Nat) (hb : ∀ x ∈ xs, x < 256) (hl : xs.length ≤ 16777216) (hrr : rows ≤ 65536) (hsr : ∀ r, bitOf sel r = true → r < rows) (hsl : sel.length = (rows + 63) / 64) (h : lkOk_I rows xs = true) : foldP_I rows xs sel = refP (rfoVals 1 rows xs sel) := by
  have hF := foD_I rows xs sel hb hl hrr hsr hsl h
  have hT := hF.tl
  have hlen := chosenN_len sel (headOf rows xs).nulls (64 * sel.length)
  have hN := tallyN_I (headOf rows xs).codec (headOf rows xs).wd (lkOut_I rows xs).list (lkOut_I rows xs).ends (lkBase_I rows xs) (lkOut_I rows xs).lanes _ (listV_I rows xs) (fun j hj => (hT.jj j hj).2)
  have hP := tallyPerm_I (headOf rows xs).codec (headOf rows xs).wd (lkOut_I rows xs).list (lkOut_I rows xs).ends (lkBase_I rows xs) (lkOut_I rows xs).lanes _ hT
  rw [← chosenV_I hb hl hrr h hsr hsl] at hP
  unfold foldP_I
  refine IsPart.unique (foldT_part _ _ rfl ?_ ?_ ?_) (refP_part _) hP ?_
  · rw [hP.length_eq, List.length_map]
    unfold rfoVals
    have := selV_len (cA (rWs (rows : Int).toNat xs)) (cB (rWs (rows : Int).toNat xs) (rPay (1 : Int).toNat (rows : Int).toNat xs).2) (cC (rWs (rows : Int).toNat xs) (rPay (1 : Int).toNat (rows : Int).toNat xs).2) sel (rows : Int).toNat
    omega
  · intro p hp
    obtain ⟨q, hq, rfl⟩ := List.mem_map.1 hp
    exact (hN q hq).2.1
  · intro p hp
    obtain ⟨q, hq, rfl⟩ := List.mem_map.1 hp
    exact (hF.pr q hq).1
  · intro c hc
    have := hP.mem_iff.1 hc
    obtain ⟨v, _, rfl⟩ := List.mem_map.1 this
    rfl
end Go.Proofs.YthonbfojpbfmgaaGreatDoor
