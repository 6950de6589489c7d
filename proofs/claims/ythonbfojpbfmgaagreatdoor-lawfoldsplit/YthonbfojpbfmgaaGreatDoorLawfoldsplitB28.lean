/- A body that a look finds valid has what a fold asks (integers). -/
import Derived.Test.YthonbfojpbfmgaaGreatDoorLawfoldsplitB27
import Derived.Test.YthonbfojpbfmgaaGreatDoorLawfoldsplitB24
import Derived.Test.YthonbfojpbfmgaaGreatDoorLawfoldsplitB17
import Derived.Lib.EndianBits
import Derived.Test.YthonbfojpbfmgaaGreatDoorLawfoldsplitB16
import Derived.Test.YthonbfojpbfmgaaGreatDoorLawfoldsplitB15
import Derived.Test.YthonbfojpbfmgaaGreatDoorLawfoldsplitB11
import Derived.Test.YthonbfojpbfmgaaGreatDoorLawfoldsplitB13
set_option linter.unusedVariables false
set_option linter.unusedSimpArgs false
set_option linter.unnecessarySimpa false
set_option maxRecDepth 20000
namespace Go.Proofs.YthonbfojpbfmgaaGreatDoor
open Go.RowKit

theorem wd13_I {rows : Nat} {xs : List Nat} (h : lkOk_I rows xs = true) (hc : (headOf rows xs).codec = 1 ∨ (headOf rows xs).codec = 3) : (headOf rows xs).wd = 0 := by
  unfold lkOk_I at h
  simp only [Bool.and_eq_true] at h
  have hb := h.2.1
  unfold lkOut_I outPay_I at hb
  rcases hc with e | e
  · rw [e, if_pos rfl] at hb
    unfold outPlain_I at hb
    simp at hb
    omega
  · rw [e, if_neg (by decide), if_neg (by decide), if_pos rfl] at hb
    unfold outRuns_I at hb
    split at hb
    · cases hb
    · rename_i hc
      simp only [not_or] at hc
      omega
theorem rdV_I (c : Nat) (xs : List Nat) (s : Bool) : ∀ x ∈ (rdI c xs s).1, okL_I x := by
  intro x hx
  unfold rdI at hx
  simp only [List.mem_map] at hx
  obtain ⟨y, _, rfl⟩ := hx
  exact sgn64_bd y
theorem listV_I (rows : Nat) (xs : List Nat) : ∀ x ∈ (lkOut_I rows xs).list, okL_I x := by
  intro x hx
  unfold lkOut_I outPay_I at hx
  split at hx
  · unfold outPlain_I at hx
    exact rdV_I (cntOf rows (headOf rows xs).nulls) (headOf rows xs).left (headOf rows xs).short x hx
  split at hx
  · unfold outDict_I at hx
    split at hx
    · cases hx
    · have hR := rdV_I (L.wordOf 8 (tk 4 (headOf rows xs).left)) (tkL 4 (headOf rows xs).left) (tkS 4 (headOf rows xs).left (headOf rows xs).short)
      generalize rdI (L.wordOf 8 (tk 4 (headOf rows xs).left)) (tkL 4 (headOf rows xs).left) (tkS 4 (headOf rows xs).left (headOf rows xs).short) = R at *
      obtain ⟨vals, ok, xl, s1⟩ := R
      simp only at hx hR
      split at hx
      · exact hR x hx
      · exact hR x hx
  split at hx
  · unfold outRuns_I at hx
    split at hx
    · cases hx
    · have hR := rdV_I (L.wordOf 8 (tk 4 (headOf rows xs).left)) (tkL (4 * L.wordOf 8 (tk 4 (headOf rows xs).left)) (tkL 4 (headOf rows xs).left)) (tkS (4 * L.wordOf 8 (tk 4 (headOf rows xs).left)) (tkL 4 (headOf rows xs).left) (tkS 4 (headOf rows xs).left (headOf rows xs).short))
      generalize rdI (L.wordOf 8 (tk 4 (headOf rows xs).left)) (tkL (4 * L.wordOf 8 (tk 4 (headOf rows xs).left)) (tkL 4 (headOf rows xs).left)) (tkS (4 * L.wordOf 8 (tk 4 (headOf rows xs).left)) (tkL 4 (headOf rows xs).left) (tkS 4 (headOf rows xs).left (headOf rows xs).short)) = R at *
      obtain ⟨vals, ok, xl, s1⟩ := R
      simp only at hx hR
      exact hR x hx
  split at hx
  · cases hx
  · cases hx
theorem ok_getD_I {list : List Int} (h : ∀ x ∈ list, okL_I x) (k : Nat) (hk : k < list.length) : okL_I (list.getD k dfI) := by
  have : list.getD k dfI ∈ list := by simp [List.getD, List.getElem?_eq_getElem hk]
  exact h _ this
/-- a value that can be asked is one -/
theorem vlV_I {codec wd : Nat} {list : List Int} {ends : List Nat} {base : Int} {lanes : List Nat} {j : Nat} (hl : ∀ x ∈ list, okL_I x) (hok : okv_I codec wd list ends lanes j) : okL_I (vl_I codec wd list ends base lanes j) := by
  unfold vl_I
  split
  · unfold val45 okL_I okI
    rw [IntKind.wrap_i64]
    omega
  · rename_i h45
    rcases hok with ⟨h1, _⟩ | h1
    · exact absurd h1 h45
    · unfold ok_I at h1
      unfold val_I
      rcases h1 with ⟨rfl, h⟩ | ⟨rfl, h, _⟩ | ⟨rfl, h, _⟩
      · rw [if_pos rfl]; exact ok_getD_I hl _ h
      · rw [if_neg (by decide), if_pos rfl]; exact ok_getD_I hl _ h
      · rw [if_neg (by decide), if_neg (by decide)]; exact ok_getD_I hl _ h
theorem tallyN_I (codec wd : Nat) (list : List Int) (ends : List Nat) (base : Int) (lanes js : List Nat) (hl : ∀ x ∈ list, okL_I x) (hj : ∀ j ∈ js, okv_I codec wd list ends lanes j) :
    ∀ p ∈ tallyP_I codec wd list ends base lanes js, okL_I p.1 ∧ 0 < p.2 ∧ p.2 ≤ js.length + 1 := by
  intro p hp
  have key : ∀ f, p ∈ shL dfI list (cntsL f js list.length) list.length → okL_I p.1 ∧ 0 < p.2 ∧ p.2 ≤ js.length + 1 := by
    intro f hp
    unfold shL at hp
    simp only [List.mem_map, List.mem_filter, List.mem_range, decide_eq_true_eq] at hp
    obtain ⟨i, ⟨h1, h2⟩, rfl⟩ := hp
    refine ⟨ok_getD_I hl i h1, h2, ?_⟩
    simp only
    rw [cntsL_get _ _ _ _ h1]
    have := cntOfF_le f js i
    omega
  unfold tallyP_I at hp
  split at hp
  · exact key _ hp
  split at hp
  · exact key _ hp
  · rw [List.mem_map] at hp
    obtain ⟨j, h1, rfl⟩ := hp
    exact ⟨vlV_I hl (hj j h1), Nat.one_pos, Nat.le_add_left 1 _⟩
theorem tlD_I (rows : Nat) (xs sel : List Nat) (hb : ∀ x ∈ xs, x < 256) (hl : xs.length ≤ 16777216) (hrr : rows ≤ 65536) (h : lkOk_I rows xs = true) (hsr : ∀ r, bitOf sel r = true → r < rows) :
    TlD_I (headOf rows xs).codec (headOf rows xs).wd (lkOut_I rows xs).list (lkOut_I rows xs).ends (lkOut_I rows xs).lanes (chosenN sel (headOf rows xs).nulls (64 * sel.length)) := by
  have hV := valid_I rows xs hb hl hrr h
  have hF := (filD_I rows xs hb hl hrr h).hd
  have hw13 := wd13_I h
  have hJ : ∀ j ∈ chosenN sel (headOf rows xs).nulls (64 * sel.length), j < cntOf rows (headOf rows xs).nulls := fun j hj => by
    obtain ⟨r, h1, _, h2, rfl⟩ := chosen_lt hV.nv hsr hj
    exact rank_lt _ r h1 h2
  have hk6 : cntOf rows (headOf rows xs).nulls ≤ 65536 := by unfold cntOf; omega
  have hw64 : (headOf rows xs).wd ≤ 64 := by
    rcases hF with ⟨h1, _⟩ | ⟨h1, _⟩ | h1
    · rw [hw13 (.inl h1)]; decide
    · rw [hw13 (.inr h1)]; decide
    · have h2 := h1.ok
      by_cases hc : 0 ≤ ((headOf rows xs).wd : Int) ∧ ((headOf rows xs).wd : Int) ≤ 64 ∧ 0 ≤ ((cntOf rows (headOf rows xs).nulls : Nat) : Int) ∧ ((cntOf rows (headOf rows xs).nulls : Nat) : Int) ≤ 65536
      · omega
      · rw [okPack_not _ hc] at h2; cases h2
  refine ⟨hV.ll, hV.el, hV.lv, hw64, fun j hj => ⟨by have := hJ j hj; omega, hV.ok j (hJ j hj)⟩, fun h2 j hj => ?_, fun h3 => ?_⟩
  · refine ⟨by have := hJ j hj; omega, ?_⟩
    have := hV.ok j (hJ j hj)
    rw [h2] at this
    unfold okv_I ok_I at this
    rcases this with ⟨h9, _⟩ | ⟨h9, _⟩ | ⟨_, h5, _, h6⟩ | ⟨h9, _⟩
    · omega
    · omega
    · exact ⟨h5, h6⟩
    · omega
  · rcases hF with ⟨h1, _⟩ | ⟨_, h4, _, _, h5, h6⟩ | h1
    · omega
    · refine ⟨fun a b hab hb2 => ?_, h4.symm, fun j hj => ⟨by have := hJ j hj; omega, ?_⟩⟩
      · rw [nI_length] at hb2
        rw [nI_get _ a (by omega), nI_get _ b hb2]
        have := h5 a b hab hb2
        omega
      · have := hV.ok j (hJ j hj)
        rw [h3] at this
        unfold okv_I ok_I at this
        rcases this with ⟨h9, _⟩ | ⟨h9, _⟩ | ⟨h9, _⟩ | ⟨_, h9, _⟩
        · omega
        · omega
        · omega
        · omega
    · have := h1.cd
      omega
end Go.Proofs.YthonbfojpbfmgaaGreatDoor

/- The Part of a list of values, as the plain answer reckons it. -/
set_option maxRecDepth 512
set_option linter.unusedVariables false
set_option linter.unusedSimpArgs false
set_option linter.unnecessarySimpa false
namespace Go.Proofs.YthonbfojpbfmgaaGreatDoor
open Go.RowKit

def pcC (v : PV) : C3 := ⟨false, v.1, v.2⟩
theorem ordP_neg_iff (a b : PV) : ordP a b < 0 ↔ lessC (pcC a) (pcC b) = true := by
  obtain ⟨ai, sa⟩ := a
  obtain ⟨bi, sb⟩ := b
  rw [lessC_iff]
  unfold ordP pcC ordS
  simp only
  by_cases h1 : ai < bi
  · simp [h1]
  · by_cases h2 : bi < ai
    · simp [h1, h2]; omega
    · have : ai = bi := by omega
      subst this
      simp only [h1, if_false]
      simp only [show ∀ a b, ltS a b = ltB a b from fun _ _ => rfl]
      cases ltB sa sb
      · cases eqS sa sb <;> simp
      · simp
theorem ordP_pos_iff (a b : PV) : 0 < ordP a b ↔ lessC (pcC b) (pcC a) = true := by
  obtain ⟨ai, sa⟩ := a
  obtain ⟨bi, sb⟩ := b
  rw [lessC_iff]
  unfold ordP pcC ordS
  simp only
  by_cases h1 : ai < bi
  · simp [h1]; omega
  · by_cases h2 : bi < ai
    · simp [h1, h2]
    · have : ai = bi := by omega
      subst this
      simp only [h1, if_false]
      simp only [show ∀ a b, ltS a b = ltB a b from fun _ _ => rfl]
      cases h3 : ltB sb sa with
      | true =>
        have h4 := ltB_asymm h3
        have h5 : (sa.toList == sb.toList) = false := by
          rw [beq_eq_false_iff_ne]
          intro e
          rw [ba_ext e] at h3
          have : ltB sb sb = false := bytesLess_self _
          rw [this] at h3; cases h3
        have h6 : eqS sa sb = false := h5
        simp [h4, h6]
      | false =>
        cases h4 : ltB sa sb with
        | true => simp
        | false =>
          have : sa = sb := ltB_tri h4 h3
          subst this
          have h6 : eqS sa sa = true := beq_self_eq_true sa.toList
          simp [h6]
theorem pcC_minP : ∀ (n : Nat) (vs : List PV), vs.length = n → vs ≠ [] → (minP vs ∈ vs ∧ ∀ v ∈ vs, lessC (pcC v) (pcC (minP vs)) = false) ∧ (maxP vs ∈ vs ∧ ∀ v ∈ vs, lessC (pcC (maxP vs)) (pcC v) = false) := by
  intro n
  induction n with
  | zero => intro vs h h2; rw [List.length_eq_zero_iff] at h; exact absurd h h2
  | succ n ih =>
    intro vs h h2
    obtain ⟨us, v, rfl⟩ : ∃ us v, vs = us ++ [v] := ⟨vs.dropLast, vs.getLast h2, (List.dropLast_concat_getLast _).symm⟩
    rw [minP_snoc, maxP_snoc]
    by_cases h0 : us = []
    · subst h0
      simp [lessC_irrefl]
    · obtain ⟨⟨m1, m2⟩, m3, m4⟩ := ih us (by simpa using h) h0
      refine ⟨?_, ?_⟩
      · split
        · rename_i h3
          rcases h3 with h3 | h3
          · exact absurd h3 h0
          · rw [ordP_neg_iff] at h3
            refine ⟨by simp, fun x hx => ?_⟩
            rcases List.mem_append.1 hx with h4 | h4
            · exact lessC_le_trans (lessC_asymm h3) (m2 x h4)
            · rw [List.mem_singleton] at h4; rw [h4]; exact lessC_irrefl _
        · rename_i h3
          refine ⟨List.mem_append_left _ m1, fun x hx => ?_⟩
          rcases List.mem_append.1 hx with h4 | h4
          · exact m2 x h4
          · rw [List.mem_singleton] at h4; subst h4
            cases h5 : lessC (pcC x) (pcC (minP us)) with
            | false => rfl
            | true => exact absurd (.inr ((ordP_neg_iff _ _).2 h5)) h3
      · split
        · rename_i h3
          rcases h3 with h3 | h3
          · exact absurd h3 h0
          · rw [ordP_pos_iff] at h3
            refine ⟨by simp, fun x hx => ?_⟩
            rcases List.mem_append.1 hx with h4 | h4
            · exact lessC_le_trans (m4 x h4) (lessC_asymm h3)
            · rw [List.mem_singleton] at h4; rw [h4]; exact lessC_irrefl _
        · rename_i h3
          refine ⟨List.mem_append_left _ m3, fun x hx => ?_⟩
          rcases List.mem_append.1 hx with h4 | h4
          · exact m4 x h4
          · rw [List.mem_singleton] at h4; subst h4
            cases h5 : lessC (pcC (maxP us)) (pcC x) with
            | false => rfl
            | true => exact absurd (.inr ((ordP_pos_iff _ _).2 h5)) h3
/-- the upper, the lower halves of the values' integers, summed -/
def hiS : List PV → Int
  | [] => 0
  | v :: r => v.1 / 4294967296 + hiS r
def loS : List PV → Int
  | [] => 0
  | v :: r => v.1 % 4294967296 + loS r
theorem halves (us : List PV) : hiS us * 4294967296 + loS us = sumI (us.map pcC) := by
  induction us with
  | nil => rfl
  | cons a r ih =>
    simp only [hiS, loS, List.map_cons, sumI, ← ih]
    unfold pcC
    simp only
    omega
/-- the Part that the plain answer makes of values -/
def refP (vs : List PV) : P9 := if vs = [] then nilP else ⟨vs.length, (hiS vs + loS vs / 4294967296) / 4294967296, ((hiS vs + loS vs / 4294967296) % 4294967296 * 4294967296 + loS vs % 4294967296).toNat, pcC (minP vs), pcC (maxP vs)⟩
theorem refP_part (vs : List PV) : IsPart (vs.map pcC) (refP vs) := by
  by_cases h0 : vs = []
  · subst h0
    exact IsPart.zero
  · have hne : vs.map pcC ≠ [] := by simpa using h0
    obtain ⟨⟨m1, m2⟩, m3, m4⟩ := pcC_minP _ vs rfl h0
    have hv := halves vs
    unfold refP
    rw [if_neg h0]
    refine ⟨fun h => absurd h hne, by simp, ?_, ?_, fun _ => List.mem_map.2 ⟨_, m1, rfl⟩, fun _ => List.mem_map.2 ⟨_, m3, rfl⟩, fun c hc => ?_, fun c hc => ?_⟩
    · rw [← hv]
      simp only
      omega
    · simp only
      omega
    · obtain ⟨v, hv2, rfl⟩ := List.mem_map.1 hc
      exact m2 v hv2
    · obtain ⟨v, hv2, rfl⟩ := List.mem_map.1 hc
      exact m4 v hv2
end Go.Proofs.YthonbfojpbfmgaaGreatDoor

/- The plain answer: the Part of a list of values. -/
set_option linter.unusedVariables false
set_option linter.unusedSimpArgs false
set_option linter.unnecessarySimpa false
set_option maxRecDepth 100000
namespace Go.Proofs.YthonbfojpbfmgaaGreatDoor
open Go.RowKit

end Go.Proofs.YthonbfojpbfmgaaGreatDoor

/- The document's Fold. -/
set_option linter.unusedVariables false
set_option linter.unusedSimpArgs false
set_option linter.unnecessarySimpa false
set_option maxRecDepth 100000
namespace Go.Proofs.YthonbfojpbfmgaaGreatDoor
open Go.RowKit

/-- the values of the rows that are chosen and not NULL -/
def selV (A : Nat → Bool) (B : Nat → Int) (C : Nat → ByteArray) (sel : List Nat) (n : Nat) : List PV := ((List.range n).filter fun r => bitOf sel r && !A r).map fun r => (B r, C r)
theorem selV_len (A : Nat → Bool) (B : Nat → Int) (C : Nat → ByteArray) (sel : List Nat) (n : Nat) : (selV A B C sel n).length ≤ n := by
  unfold selV
  rw [List.length_map]
  have := List.length_filter_le (fun r => bitOf sel r && !A r) (List.range n)
  rwa [List.length_range] at this
/-- what the plain answer tells: the code, the Part -/
def rfoCode (kind rows : Int) (xs sel : List Nat) : Int := if (isKind kind && isRows rows && okPack 1 rows sel) = true then refCode kind rows xs else 5
def rfoVals (kind rows : Int) (xs sel : List Nat) : List PV := selV (cA (rWs rows.toNat xs)) (cB (rWs rows.toNat xs) (rPay kind.toNat rows.toNat xs).2) (cC (rWs rows.toNat xs) (rPay kind.toNat rows.toNat xs).2) sel rows.toNat
def rfoPart (kind rows : Int) (xs sel : List Nat) : P9 := if rfoCode kind rows xs sel = 0 then refP (rfoVals kind rows xs sel) else nilP
end Go.Proofs.YthonbfojpbfmgaaGreatDoor
