/- A body that a look finds valid has what a filter asks (integers). -/
import Derived.Test.YthonbfojpbfmgaaGreatDoorLawfolduptoB14
import Derived.Test.YthonbfojpbfmgaaGreatDoorLawfolduptoB23
import Derived.Test.YthonbfojpbfmgaaGreatDoorLawfolduptoB21
import Derived.Test.YthonbfojpbfmgaaGreatDoorLawfolduptoB22
import Derived.Test.YthonbfojpbfmgaaGreatDoorLawfolduptoB24
import Derived.Test.YthonbfojpbfmgaaGreatDoorLawfolduptoB17
import Derived.Lib.EndianBits
import Derived.Test.YthonbfojpbfmgaaGreatDoorLawfolduptoB16
import Derived.Test.YthonbfojpbfmgaaGreatDoorLawfolduptoB7
import Derived.Test.YthonbfojpbfmgaaGreatDoorLawfolduptoB11
import Derived.Test.YthonbfojpbfmgaaGreatDoorLawfolduptoB13
set_option linter.unusedVariables false
set_option linter.unusedSimpArgs false
set_option linter.unnecessarySimpa false
set_option maxRecDepth 20000
namespace Go.Proofs.YthonbfojpbfmgaaGreatDoor
open Go.RowKit

theorem asc_geI {vals : List Int} (h : noPair geI vals = true) : ∀ a b, a < b → b < vals.length → vals.getD a 0 < vals.getD b 0 := by
  have h1 := (noPair_iff geI 0 vals).1 h
  intro a b hab
  induction b with
  | zero => omega
  | succ b ih =>
    intro hb
    have h2 := h1 b hb
    unfold geI at h2
    simp only [decide_eq_false_iff_not] at h2
    by_cases he : a = b
    · subst he; omega
    · have := ih (by omega) (by omega); omega
theorem endsUp_at (es : List Int) : ∀ l k, endsUp l es = some k → k = if es.length = 0 then l else es.getD (es.length - 1) 0 := by
  induction es with
  | nil => intro l k h; simp [endsUp] at h; simp [h]
  | cons e r ih =>
    intro l k h
    simp only [endsUp] at h
    split at h
    · cases h
    · have := ih e k h
      rw [this]
      cases r with
      | nil => simp
      | cons f r => simp
theorem runs_nat {es : List Nat} {k : Nat} (h : runEnds (nI es) k = true) (hk : k ≤ 65536) : es.length ≤ 65536 ∧ (∀ a b, a < b → b < es.length → es.getD a 0 < es.getD b 0) ∧ endB es es.length = k := by
  have h1 : endsUp 0 (nI es) = some (k : Int) := by simpa [runEnds] using h
  have hasc := runEnds_asc h
  rw [nI_length] at hasc
  have hasc2 : ∀ a b, a < b → b < es.length → es.getD a 0 < es.getD b 0 := fun a b hab hb => by
    have := hasc a b hab hb
    rw [nI_get es a (by omega), nI_get es b hb] at this
    omega
  have hgt := endsUp_gt (nI es) 0 k h1
  rw [nI_length] at hgt
  have hge : ∀ i, i < es.length → i + 1 ≤ es.getD i 0 := by
    intro i
    induction i with
    | zero => intro hi; have := hgt 0 hi; rw [nI_get es 0 hi] at this; omega
    | succ i ih => intro hi; have := ih (by omega); have := hasc2 i (i + 1) (by omega) hi; omega
  have hlast := endsUp_at (nI es) 0 k h1
  rw [nI_length] at hlast
  have hend : endB es es.length = k := by
    unfold endB
    by_cases h0 : es.length = 0
    · rw [if_pos h0] at hlast ⊢; omega
    · rw [if_neg h0, nI_get es _ (by omega)] at hlast
      rw [if_neg h0]; omega
  refine ⟨?_, hasc2, hend⟩
  by_cases h0 : es.length = 0
  · omega
  · have := hge (es.length - 1) (by omega)
    unfold endB at hend
    rw [if_neg h0] at hend
    omega
theorem filD_I (rows : Nat) (xs : List Nat) (hb : ∀ x ∈ xs, x < 256) (hl : xs.length ≤ 16777216) (hrr : rows ≤ 65536) (h : lkOk_I rows xs = true) : FilD_I rows xs := by
  unfold lkOk_I headOk at h
  simp only [Bool.and_eq_true, Bool.not_eq_true', decide_eq_true_eq] at h
  obtain ⟨⟨hpk, hcd⟩, hOb, hOs, hOl⟩ := h
  refine ⟨hpk, ?_⟩
  have hx3 : (headOf rows xs).left.length ≤ 16777216 := Nat.le_trans (tkL_le _ _) (Nat.le_trans (tkL_le _ _) (Nat.le_trans (tkL_le _ _) hl))
  have hb3 : ∀ x ∈ (headOf rows xs).left, x < 256 := tkL_lt (tkL_lt (tkL_lt hb))
  have hk6 : cntOf rows (headOf rows xs).nulls ≤ 65536 := by unfold cntOf; omega
  unfold lkOut_I lkBase_I at *
  generalize cntOf rows (headOf rows xs).nulls = k at *
  generalize (headOf rows xs).left = x3 at *
  generalize (headOf rows xs).short = t3 at *
  generalize (headOf rows xs).codec = cd at *
  generalize (headOf rows xs).wd = wd at *
  have hcdk : 1 ≤ cd ∧ cd ≤ 5 := by
    unfold isCodec at hcd
    split at hcd
    · omega
    · simp only [decide_eq_true_eq] at hcd; omega
  unfold outPay_I at *
  by_cases h1 : cd = 1
  · subst h1
    rw [if_pos rfl] at *
    unfold outPlain_I at *
    simp only [Bool.and_eq_true, decide_eq_true_eq] at *
    exact .inl ⟨rfl, rd_full_I hOb.1 hOs, hk6⟩
  by_cases h2 : cd = 2
  · subst h2
    rw [if_neg (by decide), if_pos rfl] at *
    unfold outDict_I at *
    split at hOb
    · cases hOb
    · rename_i hc
      rw [if_neg hc] at *
      have hxl1 : (tkL 4 x3).length ≤ 16777216 := Nat.le_trans (tkL_le _ _) hx3
      have hxb1 : ∀ x ∈ tkL 4 x3, x < 256 := tkL_lt hb3
      have hrb := (rd_left_I (L.wordOf 8 (tk 4 x3)) (tkL 4 x3) (tkS 4 x3 t3)).2 256 hxb1
      have hlb := (rd_left_I (L.wordOf 8 (tk 4 x3)) (tkL 4 x3) (tkS 4 x3 t3)).1
      have hfl := @rd_full_I (L.wordOf 8 (tk 4 x3)) (tkL 4 x3) (tkS 4 x3 t3)
      generalize rdI (L.wordOf 8 (tk 4 x3)) (tkL 4 x3) (tkS 4 x3 t3) = R at *
      generalize L.wordOf 8 (tk 4 x3) = dd at *
      obtain ⟨vals, ok, xl, s1⟩ := R
      simp only at *
      split at hOb
      · rename_i hoa
        rw [if_pos hoa] at *
        simp only at *
        obtain ⟨l1, l2, l3, l4⟩ := lanesB_true hOb
        have hs1 := (tkS_false hOs).2
        simp only [Bool.and_eq_true] at hoa
        have hvl := hfl hoa.1 hs1
        refine .inr (.inr ⟨.inl rfl, by first | trivial | rfl, (okPack_nat _ l1 l2).2 l3, restW_lt hrb, ?_, by omega, hk6, fun _ => asc_geI hoa.2, fun _ j hj => ?_, ?_, fun hh => absurd rfl hh⟩)
        · rw [restW_len]; omega
        · have := l4 j hj
          unfold standsB at this
          simp at this
          omega
        · unfold basePay okI; simp
      · cases hOb
  by_cases h3 : cd = 3
  · subst h3
    rw [if_neg (by decide), if_neg (by decide), if_pos rfl] at *
    unfold outRuns_I at *
    split at hOb
    · cases hOb
    · rename_i hc
      rw [if_neg hc] at *
      have hfl := @rd_full_I (L.wordOf 8 (tk 4 x3)) (tkL (4 * L.wordOf 8 (tk 4 x3)) (tkL 4 x3)) (tkS (4 * L.wordOf 8 (tk 4 x3)) (tkL 4 x3) (tkS 4 x3 t3))
      have hsh := rd_short_I (L.wordOf 8 (tk 4 x3)) (tkL (4 * L.wordOf 8 (tk 4 x3)) (tkL 4 x3)) (tkS (4 * L.wordOf 8 (tk 4 x3)) (tkL 4 x3) (tkS 4 x3 t3))
      have hel : tkS (4 * L.wordOf 8 (tk 4 x3)) (tkL 4 x3) (tkS 4 x3 t3) = false → (numL 4 (tk (4 * L.wordOf 8 (tk 4 x3)) (tkL 4 x3))).length = L.wordOf 8 (tk 4 x3) := fun h => by
        rw [numL_length, tk_len (tkS_false h).1]; omega
      generalize rdI (L.wordOf 8 (tk 4 x3)) (tkL (4 * L.wordOf 8 (tk 4 x3)) (tkL 4 x3)) (tkS (4 * L.wordOf 8 (tk 4 x3)) (tkL 4 x3) (tkS 4 x3 t3)) = R at *
      generalize numL 4 (tk (4 * L.wordOf 8 (tk 4 x3)) (tkL 4 x3)) = es at *
      generalize tkS (4 * L.wordOf 8 (tk 4 x3)) (tkL 4 x3) (tkS 4 x3 t3) = s2 at *
      generalize L.wordOf 8 (tk 4 x3) = dd at *
      obtain ⟨vals, ok, xl, s1⟩ := R
      simp only [Bool.and_eq_true] at *
      have hvl := hfl hOb.1 hOs
      have hed := hel (hsh hOs)
      have hre : runEnds (nI es) k = true := by
        cases hx : runEnds (nI es) k with
        | true => rfl
        | false => exact absurd (.inr hx) hc
      obtain ⟨r1, r2, r3⟩ := runs_nat hre hk6
      exact .inr (.inl ⟨rfl, by rw [hvl, hed], hk6, r1, r2, r3⟩)
  · rw [if_neg h1, if_neg h2, if_neg h3] at *
    have h45 : cd = 4 ∨ cd = 5 := by omega
    rcases h45 with rfl | rfl
    · rw [if_pos rfl] at *
      unfold outOff at *
      simp only at *
      obtain ⟨l1, l2, l3, l4⟩ := lanesB_true hOb
      have hbd := sgn64_bd (L.wordOf 8 (tk 8 x3))
      have hbp : basePay 4 x3 = sgn64 (L.wordOf 8 (tk 8 x3)) := if_pos rfl
      rw [hbp] at l4 ⊢
      have hxl1 : (tkL 8 x3).length ≤ 16777216 := Nat.le_trans (tkL_le _ _) hx3
      refine .inr (.inr ⟨.inr (.inl rfl), trivial, (okPack_nat _ l1 l2).2 l3, restW_lt (tkL_lt hb3), ?_, by simp, hk6, fun hh => absurd hh (by decide), fun hh => absurd hh (by decide), hbd, fun _ j hj => ?_⟩)
      · rw [restW_len]; omega
      · have := l4 j hj
        unfold standsB roomN at this
        simp at this
        omega
    · rw [if_neg (by decide)] at *
      unfold outOff at *
      simp only at *
      obtain ⟨l1, l2, l3, l4⟩ := lanesB_true hOb
      have hbp : basePay 5 x3 = 0 := if_neg (by decide)
      rw [hbp]
      refine .inr (.inr ⟨.inr (.inr rfl), trivial, (okPack_nat _ l1 l2).2 l3, restW_lt hb3, ?_, by simp, hk6, fun hh => absurd hh (by decide), fun hh => absurd hh (by decide), by unfold okI; omega, fun _ j hj => ?_⟩)
      · rw [restW_len]; omega
      · have := l4 j hj
        unfold standsB roomN at this
        simp at this
        omega
end Go.Proofs.YthonbfojpbfmgaaGreatDoor

/- What a chosen value is: the value of a row that is chosen and not NULL. -/
set_option linter.unusedVariables false
set_option linter.unusedSimpArgs false
set_option linter.unnecessarySimpa false
set_option maxRecDepth 20000
namespace Go.Proofs.YthonbfojpbfmgaaGreatDoor
open Go.RowKit

theorem chosen_lt {sel nulls : List Nat} {rows j : Nat} (hnv : ∀ x ∈ nulls, x < 18446744073709551616) (hsr : ∀ r, bitOf sel r = true → r < rows) (h : j ∈ chosenN sel nulls (64 * sel.length)) : ∃ r, r < rows ∧ bitOf sel r = true ∧ bitOf nulls r = false ∧ j = r - rankN nulls (r + 1) := by
  unfold chosenN at h
  rw [List.mem_map] at h
  obtain ⟨r, hr, rfl⟩ := h
  obtain ⟨_, hb⟩ := idx_lt _ _ _ hr
  rw [cmb_bit sel nulls hnv, Bool.and_eq_true, Bool.not_eq_true'] at hb
  exact ⟨r, hsr r hb.1, hb.1, hb.2, rfl⟩
theorem filter_range (p : Nat → Bool) {m n : Nat} (h : n ≤ m) (hp : ∀ r, p r = true → r < n) : (List.range m).filter p = (List.range n).filter p := by
  obtain ⟨d, rfl⟩ := Nat.exists_eq_add_of_le h
  clear h
  induction d with
  | zero => rfl
  | succ d ih =>
    rw [← Nat.add_assoc, List.range_succ, List.filter_append, ih]
    have : List.filter p [n + d] = [] := by
      rw [List.filter_eq_nil_iff]
      intro a ha
      rw [List.mem_singleton] at ha
      subst ha
      intro hc
      have := hp _ hc
      omega
    rw [this, List.append_nil]
end Go.Proofs.YthonbfojpbfmgaaGreatDoor

/- A body that a look finds valid has what a fold asks (integers). -/
set_option linter.unusedVariables false
set_option linter.unusedSimpArgs false
set_option linter.unnecessarySimpa false
set_option maxRecDepth 20000
namespace Go.Proofs.YthonbfojpbfmgaaGreatDoor
open Go.RowKit

theorem wd13_I {rows : Nat} {xs : List Nat} (h : lkOk_I rows xs = true) (hc : (headOf rows xs).codec = 1 ∨ (headOf rows xs).codec = 3) : (headOf rows xs).wd = 0 := by
  unfold lkOk_I at h
  simp only [Bool.and_eq_true] at h
  have hb := h.2.1
  unfold lkOut_I outPay_I at hb
  rcases hc with e | e
  · rw [e, if_pos rfl] at hb
    unfold outPlain_I at hb
    simp at hb
    omega
  · rw [e, if_neg (by decide), if_neg (by decide), if_pos rfl] at hb
    unfold outRuns_I at hb
    split at hb
    · cases hb
    · rename_i hc
      simp only [not_or] at hc
      omega
theorem rdV_I (c : Nat) (xs : List Nat) (s : Bool) : ∀ x ∈ (rdI c xs s).1, okL_I x := by
  intro x hx
  unfold rdI at hx
  simp only [List.mem_map] at hx
  obtain ⟨y, _, rfl⟩ := hx
  exact sgn64_bd y
theorem listV_I (rows : Nat) (xs : List Nat) : ∀ x ∈ (lkOut_I rows xs).list, okL_I x := by
  intro x hx
  unfold lkOut_I outPay_I at hx
  split at hx
  · unfold outPlain_I at hx
    exact rdV_I (cntOf rows (headOf rows xs).nulls) (headOf rows xs).left (headOf rows xs).short x hx
  split at hx
  · unfold outDict_I at hx
    split at hx
    · cases hx
    · have hR := rdV_I (L.wordOf 8 (tk 4 (headOf rows xs).left)) (tkL 4 (headOf rows xs).left) (tkS 4 (headOf rows xs).left (headOf rows xs).short)
      generalize rdI (L.wordOf 8 (tk 4 (headOf rows xs).left)) (tkL 4 (headOf rows xs).left) (tkS 4 (headOf rows xs).left (headOf rows xs).short) = R at *
      obtain ⟨vals, ok, xl, s1⟩ := R
      simp only at hx hR
      split at hx
      · exact hR x hx
      · exact hR x hx
  split at hx
  · unfold outRuns_I at hx
    split at hx
    · cases hx
    · have hR := rdV_I (L.wordOf 8 (tk 4 (headOf rows xs).left)) (tkL (4 * L.wordOf 8 (tk 4 (headOf rows xs).left)) (tkL 4 (headOf rows xs).left)) (tkS (4 * L.wordOf 8 (tk 4 (headOf rows xs).left)) (tkL 4 (headOf rows xs).left) (tkS 4 (headOf rows xs).left (headOf rows xs).short))
      generalize rdI (L.wordOf 8 (tk 4 (headOf rows xs).left)) (tkL (4 * L.wordOf 8 (tk 4 (headOf rows xs).left)) (tkL 4 (headOf rows xs).left)) (tkS (4 * L.wordOf 8 (tk 4 (headOf rows xs).left)) (tkL 4 (headOf rows xs).left) (tkS 4 (headOf rows xs).left (headOf rows xs).short)) = R at *
      obtain ⟨vals, ok, xl, s1⟩ := R
      simp only at hx hR
      exact hR x hx
  split at hx
  · cases hx
  · cases hx
theorem ok_getD_I {list : List Int} (h : ∀ x ∈ list, okL_I x) (k : Nat) (hk : k < list.length) : okL_I (list.getD k dfI) := by
  have : list.getD k dfI ∈ list := by simp [List.getD, List.getElem?_eq_getElem hk]
  exact h _ this
/-- a value that can be asked is one -/
theorem vlV_I {codec wd : Nat} {list : List Int} {ends : List Nat} {base : Int} {lanes : List Nat} {j : Nat} (hl : ∀ x ∈ list, okL_I x) (hok : okv_I codec wd list ends lanes j) : okL_I (vl_I codec wd list ends base lanes j) := by
  unfold vl_I
  split
  · unfold val45 okL_I okI
    rw [IntKind.wrap_i64]
    omega
  · rename_i h45
    rcases hok with ⟨h1, _⟩ | h1
    · exact absurd h1 h45
    · unfold ok_I at h1
      unfold val_I
      rcases h1 with ⟨rfl, h⟩ | ⟨rfl, h, _⟩ | ⟨rfl, h, _⟩
      · rw [if_pos rfl]; exact ok_getD_I hl _ h
      · rw [if_neg (by decide), if_pos rfl]; exact ok_getD_I hl _ h
      · rw [if_neg (by decide), if_neg (by decide)]; exact ok_getD_I hl _ h
theorem tallyN_I (codec wd : Nat) (list : List Int) (ends : List Nat) (base : Int) (lanes js : List Nat) (hl : ∀ x ∈ list, okL_I x) (hj : ∀ j ∈ js, okv_I codec wd list ends lanes j) :
    ∀ p ∈ tallyP_I codec wd list ends base lanes js, okL_I p.1 ∧ 0 < p.2 ∧ p.2 ≤ js.length + 1 := by
  intro p hp
  have key : ∀ f, p ∈ shL dfI list (cntsL f js list.length) list.length → okL_I p.1 ∧ 0 < p.2 ∧ p.2 ≤ js.length + 1 := by
    intro f hp
    unfold shL at hp
    simp only [List.mem_map, List.mem_filter, List.mem_range, decide_eq_true_eq] at hp
    obtain ⟨i, ⟨h1, h2⟩, rfl⟩ := hp
    refine ⟨ok_getD_I hl i h1, h2, ?_⟩
    simp only
    rw [cntsL_get _ _ _ _ h1]
    have := cntOfF_le f js i
    omega
  unfold tallyP_I at hp
  split at hp
  · exact key _ hp
  split at hp
  · exact key _ hp
  · rw [List.mem_map] at hp
    obtain ⟨j, h1, rfl⟩ := hp
    exact ⟨vlV_I hl (hj j h1), Nat.one_pos, Nat.le_add_left 1 _⟩
theorem tlD_I (rows : Nat) (xs sel : List Nat) (hb : ∀ x ∈ xs, x < 256) (hl : xs.length ≤ 16777216) (hrr : rows ≤ 65536) (h : lkOk_I rows xs = true) (hsr : ∀ r, bitOf sel r = true → r < rows) :
    TlD_I (headOf rows xs).codec (headOf rows xs).wd (lkOut_I rows xs).list (lkOut_I rows xs).ends (lkOut_I rows xs).lanes (chosenN sel (headOf rows xs).nulls (64 * sel.length)) := by
  have hV := valid_I rows xs hb hl hrr h
  have hF := (filD_I rows xs hb hl hrr h).hd
  have hw13 := wd13_I h
  have hJ : ∀ j ∈ chosenN sel (headOf rows xs).nulls (64 * sel.length), j < cntOf rows (headOf rows xs).nulls := fun j hj => by
    obtain ⟨r, h1, _, h2, rfl⟩ := chosen_lt hV.nv hsr hj
    exact rank_lt _ r h1 h2
  have hk6 : cntOf rows (headOf rows xs).nulls ≤ 65536 := by unfold cntOf; omega
  have hw64 : (headOf rows xs).wd ≤ 64 := by
    rcases hF with ⟨h1, _⟩ | ⟨h1, _⟩ | h1
    · rw [hw13 (.inl h1)]; decide
    · rw [hw13 (.inr h1)]; decide
    · have h2 := h1.ok
      by_cases hc : 0 ≤ ((headOf rows xs).wd : Int) ∧ ((headOf rows xs).wd : Int) ≤ 64 ∧ 0 ≤ ((cntOf rows (headOf rows xs).nulls : Nat) : Int) ∧ ((cntOf rows (headOf rows xs).nulls : Nat) : Int) ≤ 65536
      · omega
      · rw [okPack_not _ hc] at h2; cases h2
  refine ⟨hV.ll, hV.el, hV.lv, hw64, fun j hj => ⟨by have := hJ j hj; omega, hV.ok j (hJ j hj)⟩, fun h2 j hj => ?_, fun h3 => ?_⟩
  · refine ⟨by have := hJ j hj; omega, ?_⟩
    have := hV.ok j (hJ j hj)
    rw [h2] at this
    unfold okv_I ok_I at this
    rcases this with ⟨h9, _⟩ | ⟨h9, _⟩ | ⟨_, h5, _, h6⟩ | ⟨h9, _⟩
    · omega
    · omega
    · exact ⟨h5, h6⟩
    · omega
  · rcases hF with ⟨h1, _⟩ | ⟨_, h4, _, _, h5, h6⟩ | h1
    · omega
    · refine ⟨fun a b hab hb2 => ?_, h4.symm, fun j hj => ⟨by have := hJ j hj; omega, ?_⟩⟩
      · rw [nI_length] at hb2
        rw [nI_get _ a (by omega), nI_get _ b hb2]
        have := h5 a b hab hb2
        omega
      · have := hV.ok j (hJ j hj)
        rw [h3] at this
        unfold okv_I ok_I at this
        rcases this with ⟨h9, _⟩ | ⟨h9, _⟩ | ⟨h9, _⟩ | ⟨_, h9, _⟩
        · omega
        · omega
        · omega
        · omega
    · have := h1.cd
      omega
end Go.Proofs.YthonbfojpbfmgaaGreatDoor

/- The Part of a list of values, as the plain answer reckons it. -/
set_option maxRecDepth 512
set_option linter.unusedVariables false
set_option linter.unusedSimpArgs false
set_option linter.unnecessarySimpa false
namespace Go.Proofs.YthonbfojpbfmgaaGreatDoor
open Go.RowKit

def pcC (v : PV) : C3 := ⟨false, v.1, v.2⟩
theorem ordP_neg_iff (a b : PV) : ordP a b < 0 ↔ lessC (pcC a) (pcC b) = true := by
  obtain ⟨ai, sa⟩ := a
  obtain ⟨bi, sb⟩ := b
  rw [lessC_iff]
  unfold ordP pcC ordS
  simp only
  by_cases h1 : ai < bi
  · simp [h1]
  · by_cases h2 : bi < ai
    · simp [h1, h2]; omega
    · have : ai = bi := by omega
      subst this
      simp only [h1, if_false]
      simp only [show ∀ a b, ltS a b = ltB a b from fun _ _ => rfl]
      cases ltB sa sb
      · cases eqS sa sb <;> simp
      · simp
theorem ordP_pos_iff (a b : PV) : 0 < ordP a b ↔ lessC (pcC b) (pcC a) = true := by
  obtain ⟨ai, sa⟩ := a
  obtain ⟨bi, sb⟩ := b
  rw [lessC_iff]
  unfold ordP pcC ordS
  simp only
  by_cases h1 : ai < bi
  · simp [h1]; omega
  · by_cases h2 : bi < ai
    · simp [h1, h2]
    · have : ai = bi := by omega
      subst this
      simp only [h1, if_false]
      simp only [show ∀ a b, ltS a b = ltB a b from fun _ _ => rfl]
      cases h3 : ltB sb sa with
      | true =>
        have h4 := ltB_asymm h3
        have h5 : (sa.toList == sb.toList) = false := by
          rw [beq_eq_false_iff_ne]
          intro e
          rw [ba_ext e] at h3
          have : ltB sb sb = false := bytesLess_self _
          rw [this] at h3; cases h3
        have h6 : eqS sa sb = false := h5
        simp [h4, h6]
      | false =>
        cases h4 : ltB sa sb with
        | true => simp
        | false =>
          have : sa = sb := ltB_tri h4 h3
          subst this
          have h6 : eqS sa sa = true := beq_self_eq_true sa.toList
          simp [h6]
theorem pcC_minP : ∀ (n : Nat) (vs : List PV), vs.length = n → vs ≠ [] → (minP vs ∈ vs ∧ ∀ v ∈ vs, lessC (pcC v) (pcC (minP vs)) = false) ∧ (maxP vs ∈ vs ∧ ∀ v ∈ vs, lessC (pcC (maxP vs)) (pcC v) = false) := by
  intro n
  induction n with
  | zero => intro vs h h2; rw [List.length_eq_zero_iff] at h; exact absurd h h2
  | succ n ih =>
    intro vs h h2
    obtain ⟨us, v, rfl⟩ : ∃ us v, vs = us ++ [v] := ⟨vs.dropLast, vs.getLast h2, (List.dropLast_concat_getLast _).symm⟩
    rw [minP_snoc, maxP_snoc]
    by_cases h0 : us = []
    · subst h0
      simp [lessC_irrefl]
    · obtain ⟨⟨m1, m2⟩, m3, m4⟩ := ih us (by simpa using h) h0
      refine ⟨?_, ?_⟩
      · split
        · rename_i h3
          rcases h3 with h3 | h3
          · exact absurd h3 h0
          · rw [ordP_neg_iff] at h3
            refine ⟨by simp, fun x hx => ?_⟩
            rcases List.mem_append.1 hx with h4 | h4
            · exact lessC_le_trans (lessC_asymm h3) (m2 x h4)
            · rw [List.mem_singleton] at h4; rw [h4]; exact lessC_irrefl _
        · rename_i h3
          refine ⟨List.mem_append_left _ m1, fun x hx => ?_⟩
          rcases List.mem_append.1 hx with h4 | h4
          · exact m2 x h4
          · rw [List.mem_singleton] at h4; subst h4
            cases h5 : lessC (pcC x) (pcC (minP us)) with
            | false => rfl
            | true => exact absurd (.inr ((ordP_neg_iff _ _).2 h5)) h3
      · split
        · rename_i h3
          rcases h3 with h3 | h3
          · exact absurd h3 h0
          · rw [ordP_pos_iff] at h3
            refine ⟨by simp, fun x hx => ?_⟩
            rcases List.mem_append.1 hx with h4 | h4
            · exact lessC_le_trans (m4 x h4) (lessC_asymm h3)
            · rw [List.mem_singleton] at h4; rw [h4]; exact lessC_irrefl _
        · rename_i h3
          refine ⟨List.mem_append_left _ m3, fun x hx => ?_⟩
          rcases List.mem_append.1 hx with h4 | h4
          · exact m4 x h4
          · rw [List.mem_singleton] at h4; subst h4
            cases h5 : lessC (pcC (maxP us)) (pcC x) with
            | false => rfl
            | true => exact absurd (.inr ((ordP_pos_iff _ _).2 h5)) h3
/-- the upper, the lower halves of the values' integers, summed -/
def hiS : List PV → Int
  | [] => 0
  | v :: r => v.1 / 4294967296 + hiS r
def loS : List PV → Int
  | [] => 0
  | v :: r => v.1 % 4294967296 + loS r
theorem hiS_snoc (us : List PV) (v : PV) : hiS (us ++ [v]) = hiS us + v.1 / 4294967296 := by
  induction us with
  | nil => simp [hiS]
  | cons a r ih => simp only [List.cons_append, hiS, ih]; omega
theorem loS_snoc (us : List PV) (v : PV) : loS (us ++ [v]) = loS us + v.1 % 4294967296 := by
  induction us with
  | nil => simp [loS]
  | cons a r ih => simp only [List.cons_append, loS, ih]; omega
theorem halves (us : List PV) : hiS us * 4294967296 + loS us = sumI (us.map pcC) := by
  induction us with
  | nil => rfl
  | cons a r ih =>
    simp only [hiS, loS, List.map_cons, sumI, ← ih]
    unfold pcC
    simp only
    omega
theorem halves_bd (us : List PV) (h : ∀ v ∈ us, -9223372036854775808 ≤ v.1 ∧ v.1 ≤ 9223372036854775807) : -2147483648 * (us.length : Int) ≤ hiS us ∧ hiS us ≤ 2147483648 * (us.length : Int) ∧ 0 ≤ loS us ∧ loS us ≤ 4294967296 * (us.length : Int) := by
  induction us with
  | nil => simp [hiS, loS]
  | cons a r ih =>
    have h1 := ih (fun x hx => h x (List.mem_cons_of_mem _ hx))
    have h2 := h a (List.mem_cons_self ..)
    simp only [hiS, loS, List.length_cons]
    omega
/-- the Part that the plain answer makes of values -/
def refP (vs : List PV) : P9 := if vs = [] then nilP else ⟨vs.length, (hiS vs + loS vs / 4294967296) / 4294967296, ((hiS vs + loS vs / 4294967296) % 4294967296 * 4294967296 + loS vs % 4294967296).toNat, pcC (minP vs), pcC (maxP vs)⟩
theorem refP_part (vs : List PV) : IsPart (vs.map pcC) (refP vs) := by
  by_cases h0 : vs = []
  · subst h0
    exact IsPart.zero
  · have hne : vs.map pcC ≠ [] := by simpa using h0
    obtain ⟨⟨m1, m2⟩, m3, m4⟩ := pcC_minP _ vs rfl h0
    have hv := halves vs
    unfold refP
    rw [if_neg h0]
    refine ⟨fun h => absurd h hne, by simp, ?_, ?_, fun _ => List.mem_map.2 ⟨_, m1, rfl⟩, fun _ => List.mem_map.2 ⟨_, m3, rfl⟩, fun c hc => ?_, fun c hc => ?_⟩
    · rw [← hv]
      simp only
      omega
    · simp only
      omega
    · obtain ⟨v, hv2, rfl⟩ := List.mem_map.1 hc
      exact m2 v hv2
    · obtain ⟨v, hv2, rfl⟩ := List.mem_map.1 hc
      exact m4 v hv2
theorem i64_and32 (n : Int) : bits .and .i64 n 4294967295 = n % 4294967296 := by
  have h1 : (BitVec.ofInt 64 4294967295).toNat = 2 ^ 32 - 1 := by decide
  have key : (BitVec.ofInt 64 n &&& BitVec.ofInt 64 4294967295).toNat = (n % ((2 ^ 64 : Nat) : Int)).toNat % 2 ^ 32 := by
    rw [BitVec.toNat_and, BitVec.toNat_ofInt, h1, Nat.and_two_pow_sub_one_eq_mod]
  show IntKind.i64.wrap ((BitVec.ofInt 64 n &&& BitVec.ofInt 64 4294967295).toNat : Nat) = n % 4294967296
  rw [key, IntKind.wrap_i64]
  omega
theorem u64_and32 (n : Int) : bits .and .u64 n 4294967295 = n % 4294967296 := by
  have h1 : (BitVec.ofInt 64 4294967295).toNat = 2 ^ 32 - 1 := by decide
  have key : (BitVec.ofInt 64 n &&& BitVec.ofInt 64 4294967295).toNat = (n % ((2 ^ 64 : Nat) : Int)).toNat % 2 ^ 32 := by
    rw [BitVec.toNat_and, BitVec.toNat_ofInt, h1, Nat.and_two_pow_sub_one_eq_mod]
  show IntKind.u64.wrap ((BitVec.ofInt 64 n &&& BitVec.ofInt 64 4294967295).toNat : Nat) = n % 4294967296
  rw [key, IntKind.wrap_u64]
  omega
theorem u64_or_hi (x y : Int) (hy₀ : 0 ≤ y) (hy : y < 4294967296) (hx₀ : 0 ≤ x) (hx : x % 4294967296 = 0) (hx₁ : x < 18446744073709551616) : bits .or .u64 x y = x + y := by
  have hc : bits .or .u64 x y = bits .or .u64 y x := by simp only [bits, BitVec.or_comm]
  rw [hc, u64_or32 _ _ hy₀ hy hx₀ hx hx₁]
  omega
end Go.Proofs.YthonbfojpbfmgaaGreatDoor

/- The plain answer: the Part of a list of values. -/
set_option linter.unusedVariables false
set_option linter.unusedSimpArgs false
set_option linter.unnecessarySimpa false
set_option maxRecDepth 100000
namespace Go.Proofs.YthonbfojpbfmgaaGreatDoor
open Go.RowKit

set_option maxHeartbeats 8000000 in
theorem refPartOf_any (u : Value) (vs : List PV) (w : World) (hu : Rd w u vs.length 3 (cellsP vs)) (hl : vs.length ≤ 65536) (hv : ∀ v ∈ vs, -9223372036854775808 ≤ v.1 ∧ v.1 ≤ 9223372036854775807) :
    Calls Tryz.prog 42 #[u] w fun e w' => e = .returned (refP vs).v ∧ Below w.heap.size w w' := by
  by_cases h0 : vs = []
  · subst h0
    obtain ⟨A1, c1, rfl, _, _, _⟩ := hu.form
    have hV : (refP []).v = .agg #[.int .i64 0, .int .i64 0, .int .u64 0, .bool false, .int .i64 0, .string ⟨#[]⟩, .bool false, .int .i64 0, .string ⟨#[]⟩] := rfl
    rw [hV]
    clear hu hV
    go_enter Tryz.func42, Tryz.ntmps42
    go_wp2_with fail
    refine bodyPost_ret (v := .agg #[.int .i64 0, .int .i64 0, .int .u64 0, .bool false, .int .i64 0, .string ⟨#[]⟩, .bool false, .int .i64 0, .string ⟨#[]⟩]) ?_ rfl ⟨rfl, (brefl w).alloc (Nat.le_refl _) _⟩
    simp [results, Tryz.results42, go_sem]
  · obtain ⟨s, hs⟩ : ∃ s, w.heap.size = s := ⟨_, rfl⟩
    have hn0 : 0 < vs.length := by cases vs with | nil => exact absurd rfl h0 | cons a r => simp
    have HEX := hid (fun (w2 : World) (h : Below w.heap.size w w2) => extremes_any u vs w2 (hu.mono h) (by omega))
    have HU := hid (fun (w2 : World) (h : Below w.heap.size w w2) => hu.mono h)
    have HV := hid (show (refP vs).v = .agg #[.int .i64 vs.length, .int .i64 ((hiS vs + loS vs / 4294967296) / 4294967296), .int .u64 ((hiS vs + loS vs / 4294967296) % 4294967296 * 4294967296 + loS vs % 4294967296), .bool false, .int .i64 (minP vs).1, .string (minP vs).2, .bool false, .int .i64 (maxP vs).1, .string (maxP vs).2] from by
      unfold refP
      rw [if_neg h0]
      unfold P9.v pcC
      have e9 : (((hiS vs + loS vs / 4294967296) % 4294967296 * 4294967296 + loS vs % 4294967296).toNat : Int) = (hiS vs + loS vs / 4294967296) % 4294967296 * 4294967296 + loS vs % 4294967296 := Int.toNat_of_nonneg (by omega)
      simp only [e9])
    have HBD := hid hv
    obtain ⟨A1, c1, rfl, _, _, _⟩ := hu.form
    rw [HV.out]
    clear hu hv HV h0
    have hnn : ((vs.length : Int) == 0) = false := beq_eq_false_iff_ne.2 (by omega)
    have HB1 := hid ((brefl w).alloc (Nat.le_refl _) (.cells #[.int .i64 0, .int .i64 0, .int .u64 0, .bool false, .int .i64 0, .string ⟨#[]⟩, .bool false, .int .i64 0, .string ⟨#[]⟩] 44))
    have HR1 : Hid (Row (w.alloc (.cells #[.int .i64 0, .int .i64 0, .int .u64 0, .bool false, .int .i64 0, .string ⟨#[]⟩, .bool false, .int .i64 0, .string ⟨#[]⟩] 44)) s 44 [.int .i64 0, .int .i64 0, .int .u64 0, .bool false, .int .i64 0, .string ⟨#[]⟩, .bool false, .int .i64 0, .string ⟨#[]⟩]) := hid (by rw [← hs]; unfold Row; rw [heap_alloc_new])
    have HZ1 : Hid ((w.alloc (.cells #[.int .i64 0, .int .i64 0, .int .u64 0, .bool false, .int .i64 0, .string ⟨#[]⟩, .bool false, .int .i64 0, .string ⟨#[]⟩] 44)).heap.size = s + 1) := hid (by simp [hs])
    generalize minP vs = mn at *
    generalize maxP vs = mx at *
    unfold pva at HEX
    go_enter Tryz.func42, Tryz.ntmps42
    go_upto_region 3 with fail
    generalize w.alloc (.cells #[.int .i64 0, .int .i64 0, .int .u64 0, .bool false, .int .i64 0, .string ⟨#[]⟩, .bool false, .int .i64 0, .string ⟨#[]⟩] 44) = w1 at *
    go_wp2_with fail
    refine (HEX.out w1 HB1.out).mono ?_
    rintro e w2 ⟨rfl, hb2⟩
    have HB2 := hid (HB1.out.trans (hb2.mono (by have := HZ1.out; omega)))
    have HR2 := hid (HR1.out.mono hb2)
    have hz12 : s + 1 ≤ w2.heap.size := by have h9 : w1.heap.size ≤ w2.heap.size := hb2.size; have := HZ1.out; omega
    clear hb2 HR1 HB1 HZ1 HEX
    obtain ⟨g, hg⟩ : ∃ g, w2.heap.size = g := ⟨_, rfl⟩
    rw [hg] at hz12
    have HA3 := hid (((brefl w2).alloc (Nat.le_refl _) (.cells #[.bool false, .int .i64 mn.1, .string mn.2] 42)).alloc (by simp) (.cells #[.bool false, .int .i64 mx.1, .string mx.2] 42))
    have HC3 : Hid (Row ((w2.alloc (.cells #[.bool false, .int .i64 mn.1, .string mn.2] 42)).alloc (.cells #[.bool false, .int .i64 mx.1, .string mx.2] 42)) g 42 [.bool false, .int .i64 mn.1, .string mn.2]) := hid (by
      have h1 : Row (w2.alloc (.cells #[.bool false, .int .i64 mn.1, .string mn.2] 42)) g 42 [.bool false, .int .i64 mn.1, .string mn.2] := by rw [← hg]; unfold Row; rw [heap_alloc_new]
      exact h1.mono ((brefl _).alloc (Nat.le_refl _) _))
    have HD3 : Hid (Row ((w2.alloc (.cells #[.bool false, .int .i64 mn.1, .string mn.2] 42)).alloc (.cells #[.bool false, .int .i64 mx.1, .string mx.2] 42)) (g + 1) 42 [.bool false, .int .i64 mx.1, .string mx.2]) := hid (by
      have e : g + 1 = (w2.alloc (.cells #[.bool false, .int .i64 mn.1, .string mn.2] 42)).heap.size := by simp [hg]
      rw [e]; unfold Row; rw [heap_alloc_new])
    have HZ3 : Hid (((w2.alloc (.cells #[.bool false, .int .i64 mn.1, .string mn.2] 42)).alloc (.cells #[.bool false, .int .i64 mx.1, .string mx.2] 42)).heap.size = g + 2) := hid (by simp [hg])
    go_upto_region 6 with fail
    have HR3 := hid (HR2.out.mono (by rw [← hg] at *; exact HA3.out))
    have HB3 := hid (HB2.out.trans (HA3.out.mono (by rw [hg]; omega)))
    clear HR2 HB2 HA3
    generalize (w2.alloc (.cells #[.bool false, .int .i64 mn.1, .string mn.2] 42)).alloc (.cells #[.bool false, .int .i64 mx.1, .string mx.2] 42) = w3 at *
    generalize Value.agg #[.bool false, .int .i64 mn.1, .string mn.2] = AG1
    generalize Value.agg #[.bool false, .int .i64 mx.1, .string mx.2] = AG2
    go_wp2_with fail
    go_loopw [5, 6, 20] (fun h l i wr => ∃ t : Nat, t ≤ vs.length ∧ i = .int .i64 t ∧ h = .int .i64 (hiS (vs.take t)) ∧ l = .int .i64 (loS (vs.take t)) ∧ Hid (Row wr s 44 [.int .i64 0, .int .i64 0, .int .u64 0, .bool false, .int .i64 0, .string ⟨#[]⟩, .bool false, .int .i64 0, .string ⟨#[]⟩]) ∧ Hid (Row wr g 42 [.bool false, .int .i64 mn.1, .string mn.2]) ∧ Hid (Row wr (g + 1) 42 [.bool false, .int .i64 mx.1, .string mx.2]) ∧ Hid (Below w.heap.size w wr)) (fun _ _ i _ => vs.length - (intOf i).toNat)
    case atStart => exact ⟨0, by omega, rfl, by simp [hiS], by simp [loS], HR3, HC3, HD3, HB3⟩
    case round =>
      obtain ⟨t, ht, rfl, rfl, rfl, HRq, HCq, HDq, HBq⟩ := hrel
      have hbd := halves_bd (vs.take t) (fun v hv => HBD.out v (List.mem_of_mem_take hv))
      rw [List.length_take, Nat.min_eq_left ht] at hbd
      by_cases hlt : t < vs.length
      · obtain ⟨b, o, rfl, hcells⟩ := (HU.out wr HBq.out).atP (by omega)
        obtain ⟨l0, l1, l2⟩ := hcells t hlt
        have hx := HBD.out (vs.getD t dfP) (by simp [List.getD, List.getElem?_eq_getElem hlt])
        have hh := hiS_snoc (vs.take t) (vs.getD t dfP)
        have hlo := loS_snoc (vs.take t) (vs.getD t dfP)
        rw [← take_snoc vs dfP t hlt] at hh hlo
        have HH := hid hh; have HLO := hid hlo
        clear hcells hh hlo
        generalize vs.getD t dfP = X at *
        obtain ⟨xi, xs⟩ := X
        simp only at l1 l2 hx HH HLO
        generalize hiS (vs.take t) = ha at *
        generalize loS (vs.take t) = la at *
        have ha32 := i64_and32 xi
        have hw1 : IntKind.i64.wrap (ha + xi / 4294967296) = ha + xi / 4294967296 := by rw [IntKind.wrap_i64]; omega
        have hw2 : IntKind.i64.wrap (la + xi % 4294967296) = la + xi % 4294967296 := by rw [IntKind.wrap_i64]; omega
        have hw3 : wrap64 (ha + xi / 4294967296) = ha + xi / 4294967296 := by unfold wrap64; omega
        have hw4 : wrap64 (la + xi % 4294967296) = la + xi % 4294967296 := by unfold wrap64; omega
        have HXX := hid hx; have HBX := hid hbd
        have HBA := hid ((brefl wr).alloc (Nat.le_refl _) (.cells #[.bool false, .int .i64 xi, .string xs] 42))
        clear hx hbd
        go_wp2_with fail
        go_roundw
        case rel => exact ⟨t + 1, by omega, by go_num, by rw [HH.out], by rw [HLO.out], hid (HRq.out.mono HBA.out), hid (HCq.out.mono HBA.out), hid (HDq.out.mono HBA.out), hid (bthen HBq.out HBA.out)⟩
        case measure => simp [intOf]; omega
      · obtain rfl : t = vs.length := by omega
        rw [List.take_length] at *
        generalize hH : hiS vs = ha at *
        generalize hL : loS vs = la at *
        have HHH := hid (And.intro hH hL)
        clear hH hL
        have HLOW : Hid (bits BinOp.or IntKind.u64 (IntKind.u64.wrap (IntKind.u64.wrap (wrap64 (ha + la / 4294967296)) * 4294967296)) (bits BinOp.and IntKind.u64 (IntKind.u64.wrap la) 4294967295) = (ha + la / 4294967296) % 4294967296 * 4294967296 + la % 4294967296) := by
          refine hid ?_
          have e1 : wrap64 (ha + la / 4294967296) = ha + la / 4294967296 := by unfold wrap64; omega
          have e2 : IntKind.u64.wrap (IntKind.u64.wrap (ha + la / 4294967296) * 4294967296) = (ha + la / 4294967296) % 4294967296 * 4294967296 := by rw [IntKind.wrap_u64, IntKind.wrap_u64]; omega
          have e3 : IntKind.u64.wrap la % 4294967296 = la % 4294967296 := by rw [IntKind.wrap_u64]; omega
          rw [e1, e2, u64_and32, e3]
          exact u64_or_hi _ _ (by omega) (by omega) (by omega) (by omega) (by omega)
        have HHW : Hid (wrap64 (ha + la / 4294967296) = ha + la / 4294967296) := hid (by unfold wrap64; omega)
        obtain ⟨y0, y1, y2, y3, y4, y5, y6, y7, y8⟩ := row9 HRq.out
        obtain ⟨f0, f1, f2, f3, f4, f5, f6, f7, f8⟩ := frz9 HRq.out
        have k0 : wr.cell? ⟨g, 0, none⟩ = some (.bool false) := by rw [HCq.out.cell]; rfl
        have k1 : wr.cell? ⟨g, 1, none⟩ = some (.int .i64 mn.1) := by rw [HCq.out.cell]; rfl
        have k2 : wr.cell? ⟨g, 2, none⟩ = some (.string mn.2) := by rw [HCq.out.cell]; rfl
        have m0 : wr.cell? ⟨g + 1, 0, none⟩ = some (.bool false) := by rw [HDq.out.cell]; rfl
        have m1 : wr.cell? ⟨g + 1, 1, none⟩ = some (.int .i64 mx.1) := by rw [HDq.out.cell]; rfl
        have m2 : wr.cell? ⟨g + 1, 2, none⟩ = some (.string mx.2) := by rw [HDq.out.cell]; rfl
        have hw3 : wrap64 (ha + la / 4294967296) = ha + la / 4294967296 := HHW.out
        have HBX := hid hbd
        clear hbd
        go_wp2_with fail
        rw [HHW.out] at HLOW ⊢
        rw [HLOW.out, HHH.out.1, HHH.out.2]
        have HRF := hid (set9_row HRq.out (.int .i64 (vs.length : Nat)) (.int .i64 ((ha + la / 4294967296) / 4294967296)) (.int .u64 ((ha + la / 4294967296) % 4294967296 * 4294967296 + la % 4294967296)) (.bool false) (.int .i64 mn.1) (.string mn.2) (.bool false) (.int .i64 mx.1) (.string mx.2))
        have HBF := hid (set9_below HBq.out s (by omega) (.int .i64 (vs.length : Nat)) (.int .i64 ((ha + la / 4294967296) / 4294967296)) (.int .u64 ((ha + la / 4294967296) % 4294967296 * 4294967296 + la % 4294967296)) (.bool false) (.int .i64 mn.1) (.string mn.2) (.bool false) (.int .i64 mx.1) (.string mx.2))
        refine bodyPost_ret (v := .agg #[.int .i64 (vs.length : Nat), .int .i64 ((ha + la / 4294967296) / 4294967296), .int .u64 ((ha + la / 4294967296) % 4294967296 * 4294967296 + la % 4294967296), .bool false, .int .i64 mn.1, .string mn.2, .bool false, .int .i64 mx.1, .string mx.2]) ?_ rfl ⟨rfl, HBF.out⟩
        clear y0 y1 y2 y3 y4 y5 y6 y7 y8 f0 f1 f2 f3 f4 f5 f6 f7 f8
        obtain ⟨y0, y1, y2, y3, y4, y5, y6, y7, y8⟩ := row9 HRF.out
        unfold set9 at y0 y1 y2 y3 y4 y5 y6 y7 y8
        clear HRF HBF
        simp [results, Tryz.results42, go_sem, y0, y1, y2, y3, y4, y5, y6, y7, y8]
end Go.Proofs.YthonbfojpbfmgaaGreatDoor

/- The document's Fold. -/
set_option linter.unusedVariables false
set_option linter.unusedSimpArgs false
set_option linter.unnecessarySimpa false
set_option maxRecDepth 100000
namespace Go.Proofs.YthonbfojpbfmgaaGreatDoor
open Go.RowKit

/-- the values of the rows that are chosen and not NULL -/
def selV (A : Nat → Bool) (B : Nat → Int) (C : Nat → ByteArray) (sel : List Nat) (n : Nat) : List PV := ((List.range n).filter fun r => bitOf sel r && !A r).map fun r => (B r, C r)
theorem selV_succ (A : Nat → Bool) (B : Nat → Int) (C : Nat → ByteArray) (sel : List Nat) (n : Nat) : selV A B C sel (n + 1) = selV A B C sel n ++ (if (bitOf sel n && !A n) = true then [(B n, C n)] else []) := by
  unfold selV
  rw [List.range_succ, List.filter_append, List.map_append]
  congr 1
  rw [List.filter_cons]
  split <;> simp
theorem selV_len (A : Nat → Bool) (B : Nat → Int) (C : Nat → ByteArray) (sel : List Nat) (n : Nat) : (selV A B C sel n).length ≤ n := by
  unfold selV
  rw [List.length_map]
  have := List.length_filter_le (fun r => bitOf sel r && !A r) (List.range n)
  rwa [List.length_range] at this
/-- what the plain answer tells: the code, the Part -/
def rfoCode (kind rows : Int) (xs sel : List Nat) : Int := if (isKind kind && isRows rows && okPack 1 rows sel) = true then refCode kind rows xs else 5
def rfoVals (kind rows : Int) (xs sel : List Nat) : List PV := selV (cA (rWs rows.toNat xs)) (cB (rWs rows.toNat xs) (rPay kind.toNat rows.toNat xs).2) (cC (rWs rows.toNat xs) (rPay kind.toNat rows.toNat xs).2) sel rows.toNat
def rfoPart (kind rows : Int) (xs sel : List Nat) : P9 := if rfoCode kind rows xs sel = 0 then refP (rfoVals kind rows xs sel) else nilP
set_option maxHeartbeats 16000000 in
theorem refFold_any (kind rows : Int) (v sv : Value) (xs sel : List Nat) (w : World) (hv : Rd w v xs.length 1 (u8s xs)) (hb : ∀ x ∈ xs, x < 256) (hl : xs.length ≤ 16777216) (hs : Rd w sv sel.length 1 (u64s sel)) (hsv : ∀ x ∈ sel, x < 18446744073709551616) (hsl : sel.length ≤ maxLen)
    (hrg : rfoCode kind rows xs sel = 0 → ∀ p ∈ rfoVals kind rows xs sel, -9223372036854775808 ≤ p.1 ∧ p.1 ≤ 9223372036854775807) :
    Calls Tryz.prog 17 #[.int .i64 kind, .int .i64 rows, v, sv] w fun e w' => e = .returned (.tuple #[(rfoPart kind rows xs sel).v, .int .i64 (rfoCode kind rows xs sel)]) ∧ Below w.heap.size w w' := by
  obtain ⟨s, hsz⟩ : ∃ s, w.heap.size = s := ⟨_, rfl⟩
  have HDC := hid (fun (w2 : World) (h : Below w.heap.size w w2) => refDecode_any kind rows v xs w2 (hv.mono h) hb hl)
  have HBM := hid (fun (w2 : World) (h : Below w.heap.size w w2) => refIsBitmap_any sv sel rows w2 (hs.mono h) hsv hsl)
  have HBI := hid (fun (i : Nat) (w2 : World) (h : Below w.heap.size w w2) (hi : i ≤ 65536) => bitAt_any sv sel i w2 (hs.mono h) hsv hsl (by omega))
  have HK := hid (fun w2 : World => kindOK_any kind w2)
  have HRG := hid hrg
  obtain ⟨A0, c0, rfl, _, _, _⟩ := hv.form
  obtain ⟨As, cs, rfl, _, _, _⟩ := hs.form
  clear hv hs hb hsv hsl hrg
  obtain ⟨sn, hsn⟩ : ∃ n, sel.length = n := ⟨_, rfl⟩
  obtain ⟨xn, hxn⟩ : ∃ n, xs.length = n := ⟨_, rfl⟩
  simp only [hsn] at HBM HBI ⊢
  simp only [hxn] at HDC hl ⊢
  clear hsn hxn
  have HB0 := hid ((brefl w).alloc (Nat.le_refl _) (.cells #[.int .i64 0, .int .i64 0, .int .u64 0, .bool false, .int .i64 0, .string ⟨#[]⟩, .bool false, .int .i64 0, .string ⟨#[]⟩] 44))
  have HR0 : Hid (Row (w.alloc (.cells #[.int .i64 0, .int .i64 0, .int .u64 0, .bool false, .int .i64 0, .string ⟨#[]⟩, .bool false, .int .i64 0, .string ⟨#[]⟩] 44)) s 44 [.int .i64 0, .int .i64 0, .int .u64 0, .bool false, .int .i64 0, .string ⟨#[]⟩, .bool false, .int .i64 0, .string ⟨#[]⟩]) := hid (by rw [← hsz]; unfold Row; rw [heap_alloc_new])
  have HZ0 : Hid ((w.alloc (.cells #[.int .i64 0, .int .i64 0, .int .u64 0, .bool false, .int .i64 0, .string ⟨#[]⟩, .bool false, .int .i64 0, .string ⟨#[]⟩] 44)).heap.size = s + 1) := hid (by simp [hsz])
  obtain ⟨RC, hRC⟩ : ∃ RC, rfoCode kind rows xs sel = RC := ⟨_, rfl⟩
  obtain ⟨RP, hRP⟩ : ∃ RP, rfoPart kind rows xs sel = RP := ⟨_, rfl⟩
  rw [hRC, hRP]
  have HRC := hid hRC; have HRP := hid hRP
  clear hRC hRP
  go_enter Tryz.func17, Tryz.ntmps17
  go_upto_region 1 with fail
  generalize w.alloc (.cells #[.int .i64 0, .int .i64 0, .int .u64 0, .bool false, .int .i64 0, .string ⟨#[]⟩, .bool false, .int .i64 0, .string ⟨#[]⟩] 44) = w0 at *
  obtain ⟨y0, y1, y2, y3, y4, y5, y6, y7, y8⟩ := row9 HR0.out
  obtain ⟨f0, f1, f2, f3, f4, f5, f6, f7, f8⟩ := frz9 HR0.out
  have HBM0 := hid (HBM.out w0 HB0.out)
  obtain ⟨kk, hkk⟩ : ∃ b, isKind kind = b := ⟨_, rfl⟩
  obtain ⟨bm, hbm⟩ : ∃ b, okPack 1 rows sel = b := ⟨_, rfl⟩
  rw [hkk] at HK
  rw [hbm] at HBM0
  by_cases hall : (isKind kind && isRows rows && okPack 1 rows sel) = true
  rotate_left
  · have e1 : rfoCode kind rows xs sel = 5 := by unfold rfoCode; rw [if_neg hall]
    have e2 : rfoPart kind rows xs sel = nilP := by unfold rfoPart; rw [e1, if_neg (by decide)]
    obtain rfl : RC = 5 := by rw [← HRC.out]; exact e1
    obtain rfl : RP = nilP := by rw [← HRP.out]; exact e2
    clear HRC HRP
    have HBF := hid (set9_below HB0.out s (by omega) (.int .i64 0) (.int .i64 0) (.int .u64 0) (.bool false) (.int .i64 0) (.string ⟨#[]⟩) (.bool false) (.int .i64 0) (.string ⟨#[]⟩))
    have HRF := hid (row9 (set9_row HR0.out (.int .i64 0) (.int .i64 0) (.int .u64 0) (.bool false) (.int .i64 0) (.string ⟨#[]⟩) (.bool false) (.int .i64 0) (.string ⟨#[]⟩)))
    unfold set9 at HBF HRF
    rw [hkk, hbm] at hall
    have hir : isRows rows = decide (0 ≤ rows ∧ rows ≤ 65536) := rfl
    rw [hir] at hall
    clear e1 e2 hkk hbm HDC HBM HBI HRG hir
    have fin : ∀ a : Act, a.tmps[8]! = .pointer (some ⟨s, 0, none⟩) → True := fun _ _ => trivial
    cases kk
    · go_wp2_with (go_at_call 39; refine (HK.out _).mono ?_; rintro e w1 ⟨rfl, hw⟩; replace hw := hw.symm; subst hw)
      refine bodyPost_ret (v := .tuple #[.agg #[.int .i64 0, .int .i64 0, .int .u64 0, .bool false, .int .i64 0, .string ⟨#[]⟩, .bool false, .int .i64 0, .string ⟨#[]⟩], .int .i64 5]) ?_ rfl ⟨rfl, HBF.out⟩
      clear y0 y1 y2 y3 y4 y5 y6 y7 y8
      obtain ⟨y0, y1, y2, y3, y4, y5, y6, y7, y8⟩ := HRF.out
      simp [results, Tryz.results17, go_sem, y0, y1, y2, y3, y4, y5, y6, y7, y8]
    · by_cases hr0 : rows < 0
      · go_wp2_with (go_at_call 39; refine (HK.out _).mono ?_; rintro e w1 ⟨rfl, hw⟩; replace hw := hw.symm; subst hw)
        refine bodyPost_ret (v := .tuple #[.agg #[.int .i64 0, .int .i64 0, .int .u64 0, .bool false, .int .i64 0, .string ⟨#[]⟩, .bool false, .int .i64 0, .string ⟨#[]⟩], .int .i64 5]) ?_ rfl ⟨rfl, HBF.out⟩
        clear y0 y1 y2 y3 y4 y5 y6 y7 y8
        obtain ⟨y0, y1, y2, y3, y4, y5, y6, y7, y8⟩ := HRF.out
        simp [results, Tryz.results17, go_sem, y0, y1, y2, y3, y4, y5, y6, y7, y8]
      · by_cases hr1 : rows > 65536
        · go_wp2_with (go_at_call 39; refine (HK.out _).mono ?_; rintro e w1 ⟨rfl, hw⟩; replace hw := hw.symm; subst hw)
          refine bodyPost_ret (v := .tuple #[.agg #[.int .i64 0, .int .i64 0, .int .u64 0, .bool false, .int .i64 0, .string ⟨#[]⟩, .bool false, .int .i64 0, .string ⟨#[]⟩], .int .i64 5]) ?_ rfl ⟨rfl, HBF.out⟩
          clear y0 y1 y2 y3 y4 y5 y6 y7 y8
          obtain ⟨y0, y1, y2, y3, y4, y5, y6, y7, y8⟩ := HRF.out
          simp [results, Tryz.results17, go_sem, y0, y1, y2, y3, y4, y5, y6, y7, y8]
        · have hbf : bm = false := by
            cases bm with
            | false => rfl
            | true => exfalso; apply hall; simp; omega
          subst hbf
          go_wp2_with (first
            | (go_at_call 39; refine (HK.out _).mono ?_; rintro e w1 ⟨rfl, hw⟩; replace hw := hw.symm; subst hw)
            | (go_at_call 40; refine HBM0.out.mono ?_; rintro e w1 ⟨rfl, hw⟩; replace hw := hw.symm; subst hw))
          refine bodyPost_ret (v := .tuple #[.agg #[.int .i64 0, .int .i64 0, .int .u64 0, .bool false, .int .i64 0, .string ⟨#[]⟩, .bool false, .int .i64 0, .string ⟨#[]⟩], .int .i64 5]) ?_ rfl ⟨rfl, HBF.out⟩
          clear y0 y1 y2 y3 y4 y5 y6 y7 y8
          obtain ⟨y0, y1, y2, y3, y4, y5, y6, y7, y8⟩ := HRF.out
          simp [results, Tryz.results17, go_sem, y0, y1, y2, y3, y4, y5, y6, y7, y8]
  · rw [Bool.and_eq_true, Bool.and_eq_true] at hall
    obtain ⟨⟨h1, h2⟩, h3⟩ := hall
    have hrows : 0 ≤ rows ∧ rows ≤ 65536 := by unfold isRows at h2; exact of_decide_eq_true h2
    have hrc : RC = refCode kind rows xs := by rw [← HRC.out]; unfold rfoCode; rw [h1, h2, h3]; rfl
    obtain rfl : kk = true := by rw [← hkk]; exact h1
    obtain rfl : bm = true := by rw [← hbm]; exact h3
    obtain ⟨n, rfl⟩ := Int.eq_ofNat_of_zero_le hrows.1
    obtain ⟨m, FA, FB, FC, hmn, hm1, hm2, hm3, hm4⟩ : ∃ m FA FB FC, m ≤ 65536 ∧ refLen kind n xs = m ∧ refCells kind n xs = cellsUp FA FB FC m ∧ RP = refP (selV FA FB FC sel m) ∧ ∀ p ∈ selV FA FB FC sel m, -9223372036854775808 ≤ p.1 ∧ p.1 ≤ 9223372036854775807 := by
      by_cases hc0 : refCode kind n xs = 0
      · refine ⟨n, cA (rWs n xs), cB (rWs n xs) (rPay kind.toNat n xs).2, cC (rWs n xs) (rPay kind.toNat n xs).2, by omega, ?_, ?_, ?_, ?_⟩
        · unfold refLen; rw [if_pos hc0, Int.toNat_natCast]
        · unfold refCells; rw [if_pos hc0, Int.toNat_natCast]; rfl
        · rw [← HRP.out]; unfold rfoPart; rw [HRC.out, hrc, if_pos hc0]; unfold rfoVals; rw [Int.toNat_natCast]
        · have := HRG.out (by rw [HRC.out, hrc]; exact hc0)
          unfold rfoVals at this
          rwa [Int.toNat_natCast] at this
      · refine ⟨0, fun _ => false, fun _ => 0, fun _ => ByteArray.empty, by omega, ?_, ?_, ?_, fun p hp => by cases hp⟩
        · unfold refLen; rw [if_neg hc0]
        · unfold refCells; rw [if_neg hc0]; rfl
        · rw [← HRP.out]; unfold rfoPart; rw [HRC.out, hrc, if_neg hc0]; rfl
    have HDC0 := hid (HDC.out w0 HB0.out)
    rw [hm1, hm2, ← hrc] at HDC0
    have HM3 := hid hm3; have HM4 := hid hm4
    clear hm1 hm2 hm3 hm4 hrc h1 h2 h3 hkk hbm HRC HRP HRG HDC HBM y0 y1 y2 y3 y4 y5 y6 y7 y8 f0 f1 f2 f3 f4 f5 f6 f7 f8
    go_wp2_with (first
      | (go_at_call 39; refine (HK.out _).mono ?_; rintro e w1 ⟨rfl, hw⟩; replace hw := hw.symm; subst hw)
      | (go_at_call 40; refine HBM0.out.mono ?_; rintro e w1 ⟨rfl, hw⟩; replace hw := hw.symm; subst hw)
      | (go_at_call 31; refine HDC0.out.mono ?_; rintro e w2 ⟨u, rfl, hou, hb1⟩; obtain ⟨UA, uc, rfl⟩ := owns3_form hou; have HU1 := hid (owns3_rd hou); have HB1 := hid hb1; clear hou hb1))
    have HR1 := hid (HR0.out.mono HB1.out)
    have HB01 := hid (HB0.out.trans (HB1.out.mono HB0.out.size))
    have hz01 : s + 1 ≤ w2.heap.size := by have h9 : w0.heap.size ≤ w2.heap.size := HB1.out.size; have := HZ0.out; omega
    clear HB1 HR0 HB0 HZ0 HDC0 HBM0 HK
    go_loopw [12, 42] (fun vv i wr => ∃ r : Nat, r ≤ m ∧ i = .int .i64 r ∧ Hid (wr.ownsRow w2.heap.size 42 3 vv (selV FA FB FC sel r).length (cellsP (selV FA FB FC sel r))) ∧ Hid (Below w2.heap.size w2 wr)) (fun _ i _ => m - (intOf i).toNat)
    case atStart => exact ⟨0, by omega, rfl, hid ⟨by simp [selV, cellsP], .inl ⟨rfl, rfl⟩⟩, hid (brefl w2)⟩
    case round =>
      obtain ⟨r, hr, rfl, HOW, HB⟩ := hrel
      have HBF := hid (HB01.out.trans (HB.out.mono HB01.out.size))
      by_cases hlt : r < m
      · obtain ⟨b, o, rfl, hcells⟩ := (HU1.out.mono HB.out).at (by omega)
        obtain ⟨g0, g1, g2⟩ := cellsUp_get FA FB FC m r hlt
        have d0 : wr.cell? ⟨b, o + r * 3, none⟩ = _ := hcells _ _ g0
        have d1 : wr.cell? ⟨b, o + (r * 3 + 1), none⟩ = _ := hcells _ _ g1
        have d2 : wr.cell? ⟨b, o + (r * 3 + 2), none⟩ = _ := hcells _ _ g2
        rw [← Nat.add_assoc] at d1 d2
        have HVL := hid (selV_len FA FB FC sel r)
        have HST := hid (selV_succ FA FB FC sel r)
        have HBR := hid (fun (w9 : World) (h : Below w.heap.size w w9) => HBI.out r w9 h (by omega))
        clear hcells g0 g1 g2
        generalize hvs : selV FA FB FC sel r = vs at *
        clear hvs
        obtain ⟨vl, hvl⟩ : ∃ vl, vs.length = vl := ⟨_, rfl⟩
        have HVE := hid hvl
        rw [hvl] at HVL HOW
        clear hvl
        obtain ⟨A2, c2, rfl⟩ := owns3_form HOW.out
        generalize FA r = xa at *
        generalize FB r = xb at *
        generalize FC r = xc at *
        generalize bitOf sel r = bt at *
        have HBA := hid ((brefl wr).alloc (Nat.le_refl _) (.cells #[.bool xa, .int .i64 xb, .string xc] 42))
        have HOA := hid (owns3_below HOW.out HBA.out)
        have HSZ : Hid (w2.heap.size ≤ (wr.alloc (.cells #[.bool xa, .int .i64 xb, .string xc] 42)).heap.size) := hid (Nat.le_trans HB.out.size HBA.out.size)
        have HRW : Hid (Row (wr.alloc (.cells #[.bool xa, .int .i64 xb, .string xc] 42)) wr.heap.size 42 [.bool xa, .int .i64 xb, .string xc]) := hid (by unfold Row; rw [heap_alloc_new])
        have HV9 : Hid (vl + 1 ≤ 65537) := hid (by have := HVL.out; omega)
        go_upto_region 8 with fail
        generalize wr.alloc (.cells #[.bool xa, .int .i64 xb, .string xc] 42) = w4 at *
        have k0 : w4.cell? ⟨wr.heap.size, 0, none⟩ = some (.bool xa) := by rw [HRW.out.cell]; rfl
        have k1 : w4.cell? ⟨wr.heap.size, 1, none⟩ = some (.int .i64 xb) := by rw [HRW.out.cell]; rfl
        have k2 : w4.cell? ⟨wr.heap.size, 2, none⟩ = some (.string xc) := by rw [HRW.out.cell]; rfl
        have HBB := hid (bthen HB.out HBA.out)
        have HBR4 := hid (HBR.out w4 (bthen HBF.out HBA.out))
        generalize wr.heap.size = q at *
        clear HBR HBI
        cases bt
        · simp only [Bool.false_and, Bool.false_eq_true, if_false, List.append_nil] at HST
          go_wp2_with (go_at_call 41; refine HBR4.out.mono ?_; rintro e w5 ⟨rfl, hw⟩; replace hw := hw.symm; subst hw)
          go_roundw
          case rel => exact ⟨r + 1, by omega, by go_num, hid (by rw [HST.out, HVE.out]; exact HOA.out), HBB⟩
          case measure => simp [intOf]; omega
        · cases xa
          · simp only [Bool.true_and, Bool.not_false, if_true] at HST
            go_wp2_with (first
              | (go_at_call 41; refine HBR4.out.mono ?_; rintro e w5 ⟨rfl, hw⟩; replace hw := hw.symm; subst hw)
              | (at_builtin; refine wpList_append3 rfl (.tmp 55) (.tmp 57) rfl 42 [.bool false, .int .i64 0, .string ByteArray.empty] 32 Tryz.underlying23 Tryz.infoCell rfl rfl rfl HOA.out HSZ.out (by intro u hu; simp at hu; rcases hu with rfl | rfl | rfl <;> rfl) (by have := HV9.out; unfold maxLen; omega) (by have := HV9.out; omega) ?_; intro v' w' ho hb3))
            go_roundw
            case rel =>
              have G1 := hid ho
              rw [← cellsP_snoc vs (xb, xc), ← HST.out] at G1
              have G2 : Hid ((selV FA FB FC sel (r + 1)).length = vl + 1) := hid (by rw [HST.out, List.length_append, HVE.out]; rfl)
              exact ⟨r + 1, by omega, by go_num, hid (by rw [G2.out]; exact G1.out), hid (HBB.out.trans hb3)⟩
            case measure => simp [intOf]; omega
          · simp only [Bool.not_true, Bool.and_false, Bool.false_eq_true, if_false, List.append_nil] at HST
            go_wp2_with (go_at_call 41; refine HBR4.out.mono ?_; rintro e w5 ⟨rfl, hw⟩; replace hw := hw.symm; subst hw)
            go_roundw
            case rel => exact ⟨r + 1, by omega, by go_num, hid (by rw [HST.out, HVE.out]; exact HOA.out), HBB⟩
            case measure => simp [intOf]; omega
      · obtain rfl : r = m := by omega
        have HVLm := selV_len FA FB FC sel r
        have HPT := hid (fun (u : Value) (hu : Rd wr u (selV FA FB FC sel r).length 3 (cellsP (selV FA FB FC sel r))) => refPartOf_any u (selV FA FB FC sel r) wr hu (by omega) HM4.out)
        rw [← HM3.out] at HPT
        have HRr := hid (HR1.out.mono HB.out)
        generalize selV FA FB FC sel r = VS at *
        obtain ⟨A2, c2, rfl⟩ := owns3_form HOW.out
        have HPT2 := hid (HPT.out _ (owns3_rd HOW.out))
        clear HPT
        unfold P9.v at HPT2
        go_wp2_with (go_at_call 42; refine HPT2.out.mono ?_; rintro e w5 ⟨rfl, hb5⟩; have HB5 := hid hb5; have HR5 := hid (HRr.out.mono hb5); clear hb5; obtain ⟨y0, y1, y2, y3, y4, y5, y6, y7, y8⟩ := row9 HR5.out; obtain ⟨f0, f1, f2, f3, f4, f5, f6, f7, f8⟩ := frz9 HR5.out)
        have HBG := hid (set9_below (bthen HBF.out HB5.out) s (by omega) (.int .i64 RP.ct) (.int .i64 RP.hi) (.int .u64 RP.lo) (.bool RP.mn.n) (.int .i64 RP.mn.i) (.string RP.mn.s) (.bool RP.mx.n) (.int .i64 RP.mx.i) (.string RP.mx.s))
        have HRG := hid (row9 (set9_row HR5.out (.int .i64 RP.ct) (.int .i64 RP.hi) (.int .u64 RP.lo) (.bool RP.mn.n) (.int .i64 RP.mn.i) (.string RP.mn.s) (.bool RP.mx.n) (.int .i64 RP.mx.i) (.string RP.mx.s)))
        unfold set9 at HBG HRG
        refine bodyPost_ret (v := .tuple #[RP.v, .int .i64 RC]) ?_ rfl ⟨rfl, HBG.out⟩
        clear y0 y1 y2 y3 y4 y5 y6 y7 y8 f0 f1 f2 f3 f4 f5 f6 f7 f8
        obtain ⟨y0, y1, y2, y3, y4, y5, y6, y7, y8⟩ := HRG.out
        unfold P9.v
        simp [results, Tryz.results17, go_sem, y0, y1, y2, y3, y4, y5, y6, y7, y8]
end Go.Proofs.YthonbfojpbfmgaaGreatDoor
