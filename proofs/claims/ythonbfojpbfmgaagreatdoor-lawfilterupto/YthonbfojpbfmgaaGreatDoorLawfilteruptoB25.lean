/- A body that a look finds valid has what a filter asks (integers). -/
import Derived.Test.YthonbfojpbfmgaaGreatDoorLawfilteruptoB12
import Derived.Test.YthonbfojpbfmgaaGreatDoorLawfilteruptoB22
import Derived.Test.YthonbfojpbfmgaaGreatDoorLawfilteruptoB13
import Derived.Test.YthonbfojpbfmgaaGreatDoorLawfilteruptoB24
import Derived.Test.YthonbfojpbfmgaaGreatDoorLawfilteruptoB18
import Derived.Test.YthonbfojpbfmgaaGreatDoorLawfilteruptoB14
import Derived.Test.YthonbfojpbfmgaaGreatDoorLawfilteruptoB15
import Derived.Test.YthonbfojpbfmgaaGreatDoorLawfilteruptoB10
import Derived.Test.YthonbfojpbfmgaaGreatDoorLawfilteruptoB1
import Derived.Deep.QuietTactic
import Derived.Deep.RegionHeld3
import Derived.Deep.CutRange
import Derived.BigQuiet
import Derived.BigRegion
set_option linter.unusedVariables false
set_option linter.unusedSimpArgs false
set_option linter.unnecessarySimpa false
set_option maxRecDepth 20000
namespace Go.Proofs.YthonbfojpbfmgaaGreatDoor
open Go.RowKit

theorem asc_geI {vals : List Int} (h : noPair geI vals = true) : ∀ a b, a < b → b < vals.length → vals.getD a 0 < vals.getD b 0 := by
  have h1 := (noPair_iff geI 0 vals).1 h
  intro a b hab
  induction b with
  | zero => omega
  | succ b ih =>
    intro hb
    have h2 := h1 b hb
    unfold geI at h2
    simp only [decide_eq_false_iff_not] at h2
    by_cases he : a = b
    · subst he; omega
    · have := ih (by omega) (by omega); omega
theorem endsUp_at (es : List Int) : ∀ l k, endsUp l es = some k → k = if es.length = 0 then l else es.getD (es.length - 1) 0 := by
  induction es with
  | nil => intro l k h; simp [endsUp] at h; simp [h]
  | cons e r ih =>
    intro l k h
    simp only [endsUp] at h
    split at h
    · cases h
    · have := ih e k h
      rw [this]
      cases r with
      | nil => simp
      | cons f r => simp
theorem runs_nat {es : List Nat} {k : Nat} (h : runEnds (nI es) k = true) (hk : k ≤ 65536) : es.length ≤ 65536 ∧ (∀ a b, a < b → b < es.length → es.getD a 0 < es.getD b 0) ∧ endB es es.length = k := by
  have h1 : endsUp 0 (nI es) = some (k : Int) := by simpa [runEnds] using h
  have hasc := runEnds_asc h
  rw [nI_length] at hasc
  have hasc2 : ∀ a b, a < b → b < es.length → es.getD a 0 < es.getD b 0 := fun a b hab hb => by
    have := hasc a b hab hb
    rw [nI_get es a (by omega), nI_get es b hb] at this
    omega
  have hgt := endsUp_gt (nI es) 0 k h1
  rw [nI_length] at hgt
  have hge : ∀ i, i < es.length → i + 1 ≤ es.getD i 0 := by
    intro i
    induction i with
    | zero => intro hi; have := hgt 0 hi; rw [nI_get es 0 hi] at this; omega
    | succ i ih => intro hi; have := ih (by omega); have := hasc2 i (i + 1) (by omega) hi; omega
  have hlast := endsUp_at (nI es) 0 k h1
  rw [nI_length] at hlast
  have hend : endB es es.length = k := by
    unfold endB
    by_cases h0 : es.length = 0
    · rw [if_pos h0] at hlast ⊢; omega
    · rw [if_neg h0, nI_get es _ (by omega)] at hlast
      rw [if_neg h0]; omega
  refine ⟨?_, hasc2, hend⟩
  by_cases h0 : es.length = 0
  · omega
  · have := hge (es.length - 1) (by omega)
    unfold endB at hend
    rw [if_neg h0] at hend
    omega
theorem filD_I (rows : Nat) (xs : List Nat) (hb : ∀ x ∈ xs, x < 256) (hl : xs.length ≤ 16777216) (hrr : rows ≤ 65536) (h : lkOk_I rows xs = true) : FilD_I rows xs := by
  unfold lkOk_I headOk at h
  simp only [Bool.and_eq_true, Bool.not_eq_true', decide_eq_true_eq] at h
  obtain ⟨⟨hpk, hcd⟩, hOb, hOs, hOl⟩ := h
  refine ⟨hpk, ?_⟩
  have hx3 : (headOf rows xs).left.length ≤ 16777216 := Nat.le_trans (tkL_le _ _) (Nat.le_trans (tkL_le _ _) (Nat.le_trans (tkL_le _ _) hl))
  have hb3 : ∀ x ∈ (headOf rows xs).left, x < 256 := tkL_lt (tkL_lt (tkL_lt hb))
  have hk6 : cntOf rows (headOf rows xs).nulls ≤ 65536 := by unfold cntOf; omega
  unfold lkOut_I lkBase_I at *
  generalize cntOf rows (headOf rows xs).nulls = k at *
  generalize (headOf rows xs).left = x3 at *
  generalize (headOf rows xs).short = t3 at *
  generalize (headOf rows xs).codec = cd at *
  generalize (headOf rows xs).wd = wd at *
  have hcdk : 1 ≤ cd ∧ cd ≤ 5 := by
    unfold isCodec at hcd
    split at hcd
    · omega
    · simp only [decide_eq_true_eq] at hcd; omega
  unfold outPay_I at *
  by_cases h1 : cd = 1
  · subst h1
    rw [if_pos rfl] at *
    unfold outPlain_I at *
    simp only [Bool.and_eq_true, decide_eq_true_eq] at *
    exact .inl ⟨rfl, rd_full_I hOb.1 hOs, hk6⟩
  by_cases h2 : cd = 2
  · subst h2
    rw [if_neg (by decide), if_pos rfl] at *
    unfold outDict_I at *
    split at hOb
    · cases hOb
    · rename_i hc
      rw [if_neg hc] at *
      have hxl1 : (tkL 4 x3).length ≤ 16777216 := Nat.le_trans (tkL_le _ _) hx3
      have hxb1 : ∀ x ∈ tkL 4 x3, x < 256 := tkL_lt hb3
      have hrb := (rd_left_I (L.wordOf 8 (tk 4 x3)) (tkL 4 x3) (tkS 4 x3 t3)).2 256 hxb1
      have hlb := (rd_left_I (L.wordOf 8 (tk 4 x3)) (tkL 4 x3) (tkS 4 x3 t3)).1
      have hfl := @rd_full_I (L.wordOf 8 (tk 4 x3)) (tkL 4 x3) (tkS 4 x3 t3)
      generalize rdI (L.wordOf 8 (tk 4 x3)) (tkL 4 x3) (tkS 4 x3 t3) = R at *
      generalize L.wordOf 8 (tk 4 x3) = dd at *
      obtain ⟨vals, ok, xl, s1⟩ := R
      simp only at *
      split at hOb
      · rename_i hoa
        rw [if_pos hoa] at *
        simp only at *
        obtain ⟨l1, l2, l3, l4⟩ := lanesB_true hOb
        have hs1 := (tkS_false hOs).2
        simp only [Bool.and_eq_true] at hoa
        have hvl := hfl hoa.1 hs1
        refine .inr (.inr ⟨.inl rfl, by first | trivial | rfl, (okPack_nat _ l1 l2).2 l3, restW_lt hrb, ?_, by omega, hk6, fun _ => asc_geI hoa.2, fun _ j hj => ?_, ?_, fun hh => absurd rfl hh⟩)
        · rw [restW_len]; omega
        · have := l4 j hj
          unfold standsB at this
          simp at this
          omega
        · unfold basePay okI; simp
      · cases hOb
  by_cases h3 : cd = 3
  · subst h3
    rw [if_neg (by decide), if_neg (by decide), if_pos rfl] at *
    unfold outRuns_I at *
    split at hOb
    · cases hOb
    · rename_i hc
      rw [if_neg hc] at *
      have hfl := @rd_full_I (L.wordOf 8 (tk 4 x3)) (tkL (4 * L.wordOf 8 (tk 4 x3)) (tkL 4 x3)) (tkS (4 * L.wordOf 8 (tk 4 x3)) (tkL 4 x3) (tkS 4 x3 t3))
      have hsh := rd_short_I (L.wordOf 8 (tk 4 x3)) (tkL (4 * L.wordOf 8 (tk 4 x3)) (tkL 4 x3)) (tkS (4 * L.wordOf 8 (tk 4 x3)) (tkL 4 x3) (tkS 4 x3 t3))
      have hel : tkS (4 * L.wordOf 8 (tk 4 x3)) (tkL 4 x3) (tkS 4 x3 t3) = false → (numL 4 (tk (4 * L.wordOf 8 (tk 4 x3)) (tkL 4 x3))).length = L.wordOf 8 (tk 4 x3) := fun h => by
        rw [numL_length, tk_len (tkS_false h).1]; omega
      generalize rdI (L.wordOf 8 (tk 4 x3)) (tkL (4 * L.wordOf 8 (tk 4 x3)) (tkL 4 x3)) (tkS (4 * L.wordOf 8 (tk 4 x3)) (tkL 4 x3) (tkS 4 x3 t3)) = R at *
      generalize numL 4 (tk (4 * L.wordOf 8 (tk 4 x3)) (tkL 4 x3)) = es at *
      generalize tkS (4 * L.wordOf 8 (tk 4 x3)) (tkL 4 x3) (tkS 4 x3 t3) = s2 at *
      generalize L.wordOf 8 (tk 4 x3) = dd at *
      obtain ⟨vals, ok, xl, s1⟩ := R
      simp only [Bool.and_eq_true] at *
      have hvl := hfl hOb.1 hOs
      have hed := hel (hsh hOs)
      have hre : runEnds (nI es) k = true := by
        cases hx : runEnds (nI es) k with
        | true => rfl
        | false => exact absurd (.inr hx) hc
      obtain ⟨r1, r2, r3⟩ := runs_nat hre hk6
      exact .inr (.inl ⟨rfl, by rw [hvl, hed], hk6, r1, r2, r3⟩)
  · rw [if_neg h1, if_neg h2, if_neg h3] at *
    have h45 : cd = 4 ∨ cd = 5 := by omega
    rcases h45 with rfl | rfl
    · rw [if_pos rfl] at *
      unfold outOff at *
      simp only at *
      obtain ⟨l1, l2, l3, l4⟩ := lanesB_true hOb
      have hbd := sgn64_bd (L.wordOf 8 (tk 8 x3))
      have hbp : basePay 4 x3 = sgn64 (L.wordOf 8 (tk 8 x3)) := if_pos rfl
      rw [hbp] at l4 ⊢
      have hxl1 : (tkL 8 x3).length ≤ 16777216 := Nat.le_trans (tkL_le _ _) hx3
      refine .inr (.inr ⟨.inr (.inl rfl), trivial, (okPack_nat _ l1 l2).2 l3, restW_lt (tkL_lt hb3), ?_, by simp, hk6, fun hh => absurd hh (by decide), fun hh => absurd hh (by decide), hbd, fun _ j hj => ?_⟩)
      · rw [restW_len]; omega
      · have := l4 j hj
        unfold standsB roomN at this
        simp at this
        omega
    · rw [if_neg (by decide)] at *
      unfold outOff at *
      simp only at *
      obtain ⟨l1, l2, l3, l4⟩ := lanesB_true hOb
      have hbp : basePay 5 x3 = 0 := if_neg (by decide)
      rw [hbp]
      refine .inr (.inr ⟨.inr (.inr rfl), trivial, (okPack_nat _ l1 l2).2 l3, restW_lt hb3, ?_, by simp, hk6, fun hh => absurd hh (by decide), fun hh => absurd hh (by decide), by unfold okI; omega, fun _ j hj => ?_⟩)
      · rw [restW_len]; omega
      · have := l4 j hj
        unfold standsB roomN at this
        simp at this
        omega
end Go.Proofs.YthonbfojpbfmgaaGreatDoor

/- A body that a look finds valid has what a filter asks (strings). -/
set_option linter.unusedVariables false
set_option linter.unusedSimpArgs false
set_option linter.unnecessarySimpa false
set_option maxRecDepth 20000
namespace Go.Proofs.YthonbfojpbfmgaaGreatDoor
open Go.RowKit

theorem asc_geS {vals : List ByteArray} (h : noPair geS vals = true) : ∀ a b, a < b → b < vals.length → ltS (vals.getD a ByteArray.empty) (vals.getD b ByteArray.empty) = true := by
  have h1 := (noPair_iff geS ByteArray.empty vals).1 h
  intro a b hab
  induction b with
  | zero => omega
  | succ b ih =>
    intro hb
    have h2 := h1 b hb
    unfold geS at h2
    have h3 : ltS (vals.getD b ByteArray.empty) (vals.getD (b + 1) ByteArray.empty) = true := by simpa using h2
    by_cases he : a = b
    · subst he; exact h3
    · exact ltS_trans (ih (by omega) (by omega)) h3
theorem filD_S (rows : Nat) (xs : List Nat) (hb : ∀ x ∈ xs, x < 256) (hl : xs.length ≤ 16777216) (hrr : rows ≤ 65536) (h : lkOk_S rows xs = true) : FilD_S rows xs := by
  unfold lkOk_S headOk at h
  simp only [Bool.and_eq_true, Bool.not_eq_true', decide_eq_true_eq] at h
  obtain ⟨⟨hpk, hcd⟩, hOb, hOs, hOl⟩ := h
  refine ⟨hpk, ?_⟩
  have hx3 : (headOf rows xs).left.length ≤ 16777216 := Nat.le_trans (tkL_le _ _) (Nat.le_trans (tkL_le _ _) (Nat.le_trans (tkL_le _ _) hl))
  have hb3 : ∀ x ∈ (headOf rows xs).left, x < 256 := tkL_lt (tkL_lt (tkL_lt hb))
  have hk6 : cntOf rows (headOf rows xs).nulls ≤ 65536 := by unfold cntOf; omega
  unfold lkOut_S lkBase_S at *
  generalize cntOf rows (headOf rows xs).nulls = k at *
  generalize (headOf rows xs).left = x3 at *
  generalize (headOf rows xs).short = t3 at *
  generalize (headOf rows xs).codec = cd at *
  generalize (headOf rows xs).wd = wd at *
  have hcdk : 1 ≤ cd ∧ cd ≤ 3 := by
    unfold isCodec at hcd
    split at hcd
    · omega
    · simp only [decide_eq_true_eq] at hcd; unfold knum_S at hcd; omega
  unfold outPay_S at *
  by_cases h1 : cd = 1
  · subst h1
    rw [if_pos rfl] at *
    unfold outPlain_S at *
    simp only [Bool.and_eq_true, decide_eq_true_eq] at *
    exact .inl ⟨rfl, rd_full_S hOb.1 hOs, hk6⟩
  by_cases h2 : cd = 2
  · subst h2
    rw [if_neg (by decide), if_pos rfl] at *
    unfold outDict_S at *
    split at hOb
    · cases hOb
    · rename_i hc
      rw [if_neg hc] at *
      have hxl1 : (tkL 4 x3).length ≤ 16777216 := Nat.le_trans (tkL_le _ _) hx3
      have hxb1 : ∀ x ∈ tkL 4 x3, x < 256 := tkL_lt hb3
      have hrb := (rd_left_S (L.wordOf 8 (tk 4 x3)) (tkL 4 x3) (tkS 4 x3 t3)).2 256 hxb1
      have hlb := (rd_left_S (L.wordOf 8 (tk 4 x3)) (tkL 4 x3) (tkS 4 x3 t3)).1
      have hfl := @rd_full_S (L.wordOf 8 (tk 4 x3)) (tkL 4 x3) (tkS 4 x3 t3)
      generalize rdS (L.wordOf 8 (tk 4 x3)) (tkL 4 x3) (tkS 4 x3 t3) = R at *
      generalize L.wordOf 8 (tk 4 x3) = dd at *
      obtain ⟨vals, ok, xl, s1⟩ := R
      simp only at *
      split at hOb
      · rename_i hoa
        rw [if_pos hoa] at *
        simp only at *
        obtain ⟨l1, l2, l3, l4⟩ := lanesB_true hOb
        have hs1 := (tkS_false hOs).2
        simp only [Bool.and_eq_true] at hoa
        have hvl := hfl hoa.1 hs1
        refine .inr (.inr ⟨.inl rfl, by first | trivial | rfl, (okPack_nat _ l1 l2).2 l3, restW_lt hrb, ?_, by omega, hk6, fun _ => asc_geS hoa.2, fun _ j hj => ?_, ?_, fun hh => absurd rfl hh⟩)
        · rw [restW_len]; omega
        · have := l4 j hj
          unfold standsB at this
          simp at this
          omega
        · unfold okI; simp
      · cases hOb
  · obtain rfl : cd = 3 := by omega
    rw [if_neg (by decide), if_neg (by decide)] at *
    unfold outRuns_S at *
    split at hOb
    · cases hOb
    · rename_i hc
      rw [if_neg hc] at *
      have hfl := @rd_full_S (L.wordOf 8 (tk 4 x3)) (tkL (4 * L.wordOf 8 (tk 4 x3)) (tkL 4 x3)) (tkS (4 * L.wordOf 8 (tk 4 x3)) (tkL 4 x3) (tkS 4 x3 t3))
      have hsh := rd_short_S (L.wordOf 8 (tk 4 x3)) (tkL (4 * L.wordOf 8 (tk 4 x3)) (tkL 4 x3)) (tkS (4 * L.wordOf 8 (tk 4 x3)) (tkL 4 x3) (tkS 4 x3 t3))
      have hel : tkS (4 * L.wordOf 8 (tk 4 x3)) (tkL 4 x3) (tkS 4 x3 t3) = false → (numL 4 (tk (4 * L.wordOf 8 (tk 4 x3)) (tkL 4 x3))).length = L.wordOf 8 (tk 4 x3) := fun h => by
        rw [numL_length, tk_len (tkS_false h).1]; omega
      generalize rdS (L.wordOf 8 (tk 4 x3)) (tkL (4 * L.wordOf 8 (tk 4 x3)) (tkL 4 x3)) (tkS (4 * L.wordOf 8 (tk 4 x3)) (tkL 4 x3) (tkS 4 x3 t3)) = R at *
      generalize numL 4 (tk (4 * L.wordOf 8 (tk 4 x3)) (tkL 4 x3)) = es at *
      generalize tkS (4 * L.wordOf 8 (tk 4 x3)) (tkL 4 x3) (tkS 4 x3 t3) = s2 at *
      generalize L.wordOf 8 (tk 4 x3) = dd at *
      obtain ⟨vals, ok, xl, s1⟩ := R
      simp only [Bool.and_eq_true] at *
      have hvl := hfl hOb.1 hOs
      have hed := hel (hsh hOs)
      have hre : runEnds (nI es) k = true := by
        cases hx : runEnds (nI es) k with
        | true => rfl
        | false => exact absurd (.inr hx) hc
      obtain ⟨r1, r2, r3⟩ := runs_nat hre hk6
      exact .inr (.inl ⟨rfl, by rw [hvl, hed], hk6, r1, r2, r3⟩)
end Go.Proofs.YthonbfojpbfmgaaGreatDoor

/- Package kernel: Filter in the document's words. -/
set_option linter.unusedVariables false
set_option linter.unusedSimpArgs false
set_option linter.unnecessarySimpa false
set_option maxRecDepth 100000
namespace Go.Proofs.YthonbfojpbfmgaaGreatDoor
open Go.RowKit

theorem ofK_one {c : C3} (h : isVal 1 c = true) : pvOf c = pI c.i := by
  obtain ⟨n, i, s⟩ := c
  unfold isVal ofK at h
  simp only [Bool.and_eq_true, Bool.not_eq_true'] at h
  obtain ⟨rfl, h⟩ := h
  simp only [Bool.false_eq_true, if_false, if_true] at h
  unfold pvOf pI
  simp only
  congr 1
  exact ba_ext (by rw [List.isEmpty_iff.1 h]; decide +kernel)
theorem ofK_two {c : C3} (h : isVal 2 c = true) : pvOf c = pS c.s := by
  obtain ⟨n, i, s⟩ := c
  unfold isVal ofK at h
  simp only [Bool.and_eq_true, Bool.not_eq_true'] at h
  obtain ⟨rfl, h⟩ := h
  simp only [Bool.false_eq_true, if_false, if_neg (show ¬ (2 : Int) = 1 by decide), decide_eq_true_eq] at h
  unfold pvOf pS
  simp only
  rw [h.2.1]
theorem args_one {args : List C3} (h : args.all (isVal 1) = true) : (args.map C3.i).map pI = args.map pvOf := by
  rw [List.map_map]
  exact List.map_congr_left fun c hc => (ofK_one (List.all_eq_true.1 h c hc)).symm
theorem args_two {args : List C3} (h : args.all (isVal 2) = true) : (args.map C3.s).map pS = args.map pvOf := by
  rw [List.map_map]
  exact List.map_congr_left fun c hc => (ofK_two (List.all_eq_true.1 h c hc)).symm
theorem leafV_two (op : Int) (az : List C3) (nl : Bool) (v : PV) : decide (leafV op az nl v = 2) = if op = 9 then nl else !nl && leafT op (az.map pvOf) v := by
  unfold leafV
  by_cases h9 : op = 9
  · subst h9; cases nl <;> simp
  · cases nl <;> simp [h9]
theorem leafV_one (op : Int) (az : List C3) (nl : Bool) (v : PV) : decide (leafV op az nl v = 1) = if op = 9 then false else nl := by
  unfold leafV
  by_cases h9 : op = 9
  · subst h9; cases nl <;> simp
  · cases nl <;> cases leafT op (az.map pvOf) v <;> simp [h9]
theorem bits_eq {n : Nat} {F : Nat → Bool} {zs : List Nat} {fl : List Bool} (h : BitsOf n F zs) (hl : fl.length = n) (hf : ∀ r, r < n → fl.getD r false = F r) : zs = bmL fl := by
  obtain ⟨h1, h2, h3⟩ := h
  obtain ⟨b1, b2, b3⟩ := bmL_isBm fl
  rw [hl] at b1 b3
  rw [nWords1k] at b1
  refine bm_ext (by rw [h1, b1]) h2 b2 (fun i hi => ?_)
  rw [h3, b3 i (by rw [b1, ← h1]; exact hi)]
  show (decide (i < n) && F i) = (decide (i < n) && fl.getD i false)
  by_cases hn : i < n
  · rw [hf i hn]
  · simp [hn]
theorem leaf_both {kind op col : Int} {args : List C3} (hk : isKind kind = true) : leafOk kind ⟨op, col, args⟩ = leafR kind ⟨op, col, args⟩ := by
  unfold leafOk leafR
  rw [hk, Bool.and_true]

/-- what Filter answers, in the document's words -/
def FilDoc (kind rows : Int) (xs : List Nat) (op col : Int) (args : List C3) (w : World) (e : Ending) (w' : World) : Prop := ∃ tv uv, e = .returned (.tuple #[.agg #[tv, uv], .int .i64 (rfCode kind rows op col args xs)]) ∧
  w'.ownsRow w.heap.size 40 1 tv (rfZ kind rows op col args xs 2).length (u64s (rfZ kind rows op col args xs 2)) ∧ w'.ownsRow w.heap.size 40 1 uv (rfZ kind rows op col args xs 1).length (u64s (rfZ kind rows op col args xs 1)) ∧
  (∀ k, tv.ownBlock = some k → uv.ownBlock ≠ some k) ∧ Below w.heap.size w w'
theorem doc_err {kind rows : Int} {xs : List Nat} {op col : Int} {args : List C3} {w w' : World} {e : Ending} {c : Int} (h : FilErr w e w' c) (hc : c ≠ 0) (hr : rfCode kind rows op col args xs = c) : FilDoc kind rows xs op col args w e w' := by
  obtain ⟨rfl, hb⟩ := h
  have z : ∀ t, rfZ kind rows op col args xs t = [] := fun t => by unfold rfZ; rw [hr, if_neg hc]
  refine ⟨_, _, by rw [hr], ?_, ?_, fun k hk => (by cases hk), hb⟩
  · rw [z]; exact World.ownsRow_nil _ _ _ _
  · rw [z]; exact World.ownsRow_nil _ _ _ _
theorem doc_says {kind rows : Int} {xs : List Nat} {op col : Int} {args : List C3} {w w' : World} {e : Ending} {n : Nat} {FT FU : Nat → Bool} (h : FilSays w e w' n FT FU) (hn : rows = n) (hr : rfCode kind rows op col args xs = 0)
    (h2 : ∀ r, r < n → decide (rfV kind.toNat n op args xs r = 2) = FT r) (h1 : ∀ r, r < n → decide (rfV kind.toNat n op args xs r = 1) = FU r) : FilDoc kind rows xs op col args w e w' := by
  subst hn
  obtain ⟨tv, uv, zt, zu, rfl, b2, b1, o2, o1, hs, hb⟩ := h
  have e2 : zt = rfZ kind n op col args xs 2 := by
    unfold rfZ
    rw [if_pos hr, Int.toNat_natCast]
    exact bits_eq b2 (rfB_len ..) (fun r hr => by rw [rfB_get _ _ _ _ _ _ _ _ hr, h2 r hr])
  have e1 : zu = rfZ kind n op col args xs 1 := by
    unfold rfZ
    rw [if_pos hr, Int.toNat_natCast]
    exact bits_eq b1 (rfB_len ..) (fun r hr => by rw [rfB_get _ _ _ _ _ _ _ _ hr, h1 r hr])
  rw [← b2.1] at o2
  rw [← b1.1] at o1
  refine ⟨tv, uv, by rw [hr], ?_, ?_, hs, hb⟩
  · rw [← e2]; exact o2
  · rw [← e1]; exact o1
theorem cells_I {rows : Nat} {xs : List Nat} (hrr : rows ≤ 65536) (hok : rOk 1 rows xs = true) {r : Nat} (hr : r < rows) : cA (rWs rows xs) r = bitOf (headOf rows xs).nulls r ∧ (bitOf (headOf rows xs).nulls r = false → (cB (rWs rows xs) (rPay 1 rows xs).2 r, cC (rWs rows xs) (rPay 1 rows xs).2 r) = pI (rowV_I rows xs r)) := by
  obtain ⟨m1, m2, m3⟩ := (meet_I rows xs hrr).2 hok r hr
  refine ⟨m1.symm, fun h => ?_⟩
  rw [← m2, ← m3]
  unfold cellB_I cellC_I rowV_I pI cB_I cC_I
  rw [h]
  rfl
theorem cells_S {rows : Nat} {xs : List Nat} (hrr : rows ≤ 65536) (hok : rOk 2 rows xs = true) {r : Nat} (hr : r < rows) : cA (rWs rows xs) r = bitOf (headOf rows xs).nulls r ∧ (bitOf (headOf rows xs).nulls r = false → (cB (rWs rows xs) (rPay 2 rows xs).2 r, cC (rWs rows xs) (rPay 2 rows xs).2 r) = pS (rowV_S rows xs r)) := by
  obtain ⟨m1, m2, m3⟩ := (meet_S rows xs hrr).2 hok r hr
  refine ⟨m1.symm, fun h => ?_⟩
  rw [← m2, ← m3]
  unfold cellB_S cellC_S rowV_S pS cB_S cC_S
  rw [h]
  rfl
theorem filM_I {n : Nat} {xs : List Nat} {op col : Int} {args : List C3} {w w' : World} {e : Ending} (hn : n ≤ 65536) (h : FilK_I n xs op col args w e w') : FilDoc 1 n xs op col args w e w' := by
  have hk : isKind 1 = true := by decide
  have hg : (isKind 1 && isRows n) = true := by rw [hk]; simp [isRows]; omega
  have hm := (meet_I n xs hn).1
  have hrc : refCode 1 n xs = if rOk 1 n xs = true then 0 else 1 := by unfold refCode; rw [if_pos hg]; rfl
  rcases h with ⟨h1, h2⟩ | ⟨h1, h2, h3⟩ | ⟨h1, h2, h3⟩
  · refine doc_err h2 (by decide) ?_
    unfold rfCode
    rw [hrc, ← hm, h1]
    rfl
  · refine doc_err h3 (by decide) ?_
    unfold rfCode
    rw [hrc, ← hm, h1, if_pos rfl, if_pos rfl, ← leaf_both hk, h2]
    rfl
  · have hlr : leafR 1 ⟨op, col, args⟩ = true := by rw [← leaf_both hk]; exact h2
    have hall : args.all (isVal 1) = true := by unfold leafR at hlr; simp only [Bool.and_eq_true] at hlr; exact hlr.2
    have hok : rOk 1 n xs = true := by rw [← hm]; exact h1
    refine doc_says h3 rfl ?_ (fun r hr => ?_) (fun r hr => ?_)
    · unfold rfCode
      rw [hrc, hok, if_pos rfl, if_pos rfl, if_pos hlr]
    · obtain ⟨c1, c2⟩ := cells_I hn hok hr
      unfold rfV filT_I
      rw [leafV_two, show (1 : Int).toNat = 1 from rfl, c1, args_one hall]
      cases hb : bitOf (headOf n xs).nulls r
      · rw [c2 hb]
      · simp
    · obtain ⟨c1, c2⟩ := cells_I hn hok hr
      unfold rfV filU
      rw [leafV_one, c1]
theorem filM_S {n : Nat} {xs : List Nat} {op col : Int} {args : List C3} {w w' : World} {e : Ending} (hn : n ≤ 65536) (h : FilK_S n xs op col args w e w') : FilDoc 2 n xs op col args w e w' := by
  have hk : isKind 2 = true := by decide
  have hg : (isKind 2 && isRows n) = true := by rw [hk]; simp [isRows]; omega
  have hm := (meet_S n xs hn).1
  have hrc : refCode 2 n xs = if rOk 2 n xs = true then 0 else 1 := by unfold refCode; rw [if_pos hg]; rfl
  rcases h with ⟨h1, h2⟩ | ⟨h1, h2, h3⟩ | ⟨h1, h2, h3⟩
  · refine doc_err h2 (by decide) ?_
    unfold rfCode
    rw [hrc, ← hm, h1]
    rfl
  · refine doc_err h3 (by decide) ?_
    unfold rfCode
    rw [hrc, ← hm, h1, if_pos rfl, if_pos rfl, ← leaf_both hk, h2]
    rfl
  · have hlr : leafR 2 ⟨op, col, args⟩ = true := by rw [← leaf_both hk]; exact h2
    have hall : args.all (isVal 2) = true := by unfold leafR at hlr; simp only [Bool.and_eq_true] at hlr; exact hlr.2
    have hok : rOk 2 n xs = true := by rw [← hm]; exact h1
    refine doc_says h3 rfl ?_ (fun r hr => ?_) (fun r hr => ?_)
    · unfold rfCode
      rw [hrc, hok, if_pos rfl, if_pos rfl, if_pos hlr]
    · obtain ⟨c1, c2⟩ := cells_S hn hok hr
      unfold rfV filT_S
      rw [leafV_two, show (2 : Int).toNat = 2 from rfl, c1, args_two hall]
      cases hb : bitOf (headOf n xs).nulls r
      · rw [c2 hb]
      · simp
    · obtain ⟨c1, c2⟩ := cells_S hn hok hr
      unfold rfV filU
      rw [leafV_one, c1]
theorem FilterM_any (w : World) (v av : Value) (xs : List Nat) (kind rows op col : Int) (args : List C3) (hT : Tab w) (hv : Rd w v xs.length 1 (u8s xs)) (hb : ∀ x ∈ xs, x < 256) (hl : xs.length ≤ 16777216)
    (hx : Rd w av args.length 3 (cells3 args)) (hal : args.length ≤ 1048576) (har : ∀ c ∈ args, okI c.i) :
    Calls Tryz.prog 9 #[.int .i64 kind, .int .i64 rows, v, .agg #[.int .i64 op, .int .i64 col, av]] w fun e w' => FilDoc kind rows xs op col args w e w' := by
  refine (Filter_any w v av xs kind rows op col args hT hv hb hl hx hal har (fun n h1 h2 h3 => filD_I n xs hb hl h2 h3) (fun n h1 h2 h3 => filD_S n xs hb hl h2 h3)).mono ?_
  rintro e w' (⟨h1, h2⟩ | ⟨rfl, n, rfl, hn, h⟩ | ⟨rfl, n, rfl, hn, h⟩)
  · refine doc_err h2 (by decide) ?_
    unfold rfCode refCode
    rw [h1]
    rfl
  · exact filM_I hn h
  · exact filM_S hn h
end Go.Proofs.YthonbfojpbfmgaaGreatDoor

/- The document's leafOf: what a leaf is for a cell. -/
set_option linter.unusedVariables false
set_option linter.unusedSimpArgs false
set_option linter.unnecessarySimpa false
set_option maxRecDepth 100000
namespace Go.Proofs.YthonbfojpbfmgaaGreatDoor
open Go.RowKit

theorem rows2f {u : World} {X Y : Array Value} {eX eY : TypeId} : Row ((u.alloc (.cells X eX)).alloc (.cells Y eY)) u.heap.size eX X.toList ∧ Row ((u.alloc (.cells X eX)).alloc (.cells Y eY)) (u.heap.size + 1) eY Y.toList ∧ Below u.heap.size u ((u.alloc (.cells X eX)).alloc (.cells Y eY)) := by
  have e : u.heap.size + 1 = (u.alloc (.cells X eX)).heap.size := by simp
  refine ⟨?_, ?_, ((Below.refl u.heap.size u).alloc (Nat.le_refl _) _).alloc (by simp) _⟩
  · have h1 : Row (u.alloc (.cells X eX)) u.heap.size eX X.toList := by unfold Row; rw [heap_alloc_new]
    exact h1.mono ((Below.refl _ _).alloc (Nat.le_refl _) _)
  · rw [e]; unfold Row; rw [heap_alloc_new]
theorem leafR_op {k op col : Int} {args : List C3} (h : leafR k ⟨op, col, args⟩ = true) : 1 ≤ op ∧ op ≤ 9 ∧ (op = 8 → args.length = 2) ∧ args.length ≤ 1024 ∧ ∀ t, t < args.length → (args.getD t C3.df).n = false := by
  unfold leafR at h
  simp only [Bool.and_eq_true] at h
  obtain ⟨h1, h2⟩ := h
  have hn : ∀ t, t < args.length → (args.getD t C3.df).n = false := fun t ht => by
    have h3 := all_at (p := isVal k) C3.df t h2 ht
    unfold isVal at h3
    simp only [Bool.and_eq_true, Bool.not_eq_true'] at h3
    exact h3.1
  unfold takesB at h1
  split at h1
  · rename_i h7; simp only [decide_eq_true_eq] at h1; exact ⟨by omega, by omega, by omega, h1, hn⟩
  · split at h1
    · rename_i h8; simp only [decide_eq_true_eq] at h1; exact ⟨by omega, by omega, fun _ => h1, by omega, hn⟩
    · split at h1
      · rename_i h9; simp only [decide_eq_true_eq] at h1; exact ⟨by omega, by omega, by omega, by omega, hn⟩
      · simp only [Bool.and_eq_true, decide_eq_true_eq] at h1; exact ⟨by omega, by omega, by omega, by omega, hn⟩
set_option maxHeartbeats 8000000 in
theorem leafOf_any (k op col : Int) (av : Value) (args : List C3) (nl : Bool) (vi : Int) (vs : ByteArray) (w : World) (hx : Rd w av args.length 3 (cells3 args)) (hlr : leafR k ⟨op, col, args⟩ = true) :
    Calls Tryz.prog 33 #[.agg #[.int .i64 op, .int .i64 col, av], .agg #[.bool nl, .int .i64 vi, .string vs]] w fun e w' => e = .returned (.int .i64 (leafV op args nl (vi, vs))) ∧ Below w.heap.size w w' := by
  have HX := hid hx
  obtain ⟨o1, o2, o3, o4, o5⟩ := leafR_op hlr
  have HLH := hid (fun (h9 : op ≠ 9) => leaf_hits k op col (vi, vs) args hlr h9)
  have H5 := hid o5
  have H3 := hid o3
  clear hlr o5 o3
  obtain ⟨A, ca, rfl, hlc, hcm, _⟩ := hx.form
  clear hx
  obtain ⟨R, hR⟩ : ∃ R, leafV op args nl (vi, vs) = R := ⟨_, rfl⟩
  rw [hR]
  unfold leafV at hR
  have HR := hid hR
  clear hR
  obtain ⟨ra, rz, hbw⟩ := rows2f (u := w) (X := #[.int .i64 op, .int .i64 col, .slice A args.length ca]) (Y := #[.bool nl, .int .i64 vi, .string vs]) (eX := 25) (eY := 42)
  have HRN := hid ra; have HRC := hid rz; have HBO := hid hbw
  clear ra rz hbw
  obtain ⟨q, hq⟩ : ∃ q, args.length = q := ⟨_, rfl⟩
  have HQ := hid hq
  simp only [hq] at HX hlc o4 HRN HRC HBO HLH H5 H3 ⊢
  clear hq
  unfold maxLen at hcm
  go_enter Tryz.func33, Tryz.ntmps33
  go_upto_region 1 with fail
  generalize (w.alloc (.cells #[.int .i64 op, .int .i64 col, .slice A q ca] 25)).alloc (.cells #[.bool nl, .int .i64 vi, .string vs] 42) = w0 at *
  obtain ⟨k0, k1, k2⟩ := cell3 HRN.out
  obtain ⟨c0, c1, c2⟩ := cell3 HRC.out
  by_cases h9 : op = 9
  · subst h9
    have e9 : ((9 : Int) != 9) = false := by decide
    cases nl
    · obtain rfl : R = 0 := by rw [← HR.out]; rfl
      go_wp2_with fail
      go_ret
      exact ⟨rfl, HBO.out⟩
    · obtain rfl : R = 2 := by rw [← HR.out]; rfl
      go_wp2_with fail
      go_ret
      exact ⟨rfl, HBO.out⟩
  have e9 : (op == 9) = false := by simp [h9]
  have e9b : (op != 9) = true := by simp [h9]
  cases nl
  rotate_left
  · obtain rfl : R = 1 := by rw [← HR.out]; simp [h9]
    go_wp2_with fail
    go_ret
    exact ⟨rfl, HBO.out⟩
  have HLH9 := hid (HLH.out h9)
  have hR2 : R = if hitYes op (hitN op (vi, vs) args q) = true then 2 else 0 := by rw [← HR.out, HLH9.out]; simp [h9]
  have HR2 := hid hR2
  clear hR2 HLH HLH9 HR
  have HOR := hid (fun (a : C3) (w2 : World) => order_any (vi, vs) (pvOf a) w2)
  go_wp2_with fail
  clear k0 k1 k2 c0 c1 c2
  go_loopw [5, 24] (fun h i wr => ∃ t : Nat, t ≤ q ∧ i = .int .i64 t ∧ h = .int .i64 (hitN op (vi, vs) args t : Nat) ∧ Hid (Below w0.heap.size w0 wr)) (fun _ i _ => q - (intOf i).toNat)
  case atStart => exact ⟨0, by omega, rfl, rfl, hid (brefl w0)⟩
  case round =>
    obtain ⟨t, ht, rfl, rfl, HBW⟩ := hrel
    have hhl := hitN_le op (vi, vs) args t
    have HBF := hid (HBO.out.trans (HBW.out.mono HBO.out.size))
    have HRNw := hid (HRN.out.mono HBW.out)
    have HRCw := hid (HRC.out.mono HBW.out)
    obtain ⟨k0, k1, k2⟩ := cell3 HRNw.out
    obtain ⟨c0, c1, c2⟩ := cell3 HRCw.out
    by_cases hlt : t < q
    · obtain ⟨b, o, rfl, hs⟩ := (HX.out.mono HBF.out).at (by omega)
      obtain ⟨d0, d1, d2⟩ := hs.c3 t (by rw [HQ.out]; exact hlt)
      have hn := H5.out t hlt
      have HHN : Hid (hitN op (vi, vs) args (t + 1) = hitN op (vi, vs) args t + (hitB op (vi, vs) args t).toNat) := hid rfl
      have HHB : Hid (hitB op (vi, vs) args t = standsS (opAt op t) (ordP (vi, vs) (pvOf (args.getD t C3.df)))) := hid rfl
      have hat : 1 ≤ opAt op t ∧ opAt op t ≤ 6 := by
        unfold opAt
        by_cases h7 : op = 7
        · rw [if_pos h7]; omega
        · rw [if_neg h7]
          by_cases h8 : op = 8
          · rw [if_pos h8]; have := H3.out h8; omega
          · rw [if_neg h8]; omega
      have HOT := hid (HOR.out (args.getD t C3.df))
      clear hs HOR
      generalize args.getD t C3.df = x at *
      obtain ⟨xn, xi, xs⟩ := x
      simp only at hn
      subst hn
      simp only [pvOf] at d0 d1 d2 HHB HOT
      generalize ordP (vi, vs) (xi, xs) = sg at *
      have HST := hid (fun (w2 : World) => stands_any (opAt op t) sg w2 hat)
      rw [← HHB.out] at HST
      generalize hitB op (vi, vs) args t = hb at *
      generalize hitN op (vi, vs) args t = hn0 at *
      clear HHB hat
      have hop : (op = 7 ∧ opAt op t = 1) ∨ (op = 8 ∧ opAt op t = 6 - 2 * (t : Int)) ∨ (¬ op = 7 ∧ ¬ op = 8 ∧ opAt op t = op) := by
        unfold opAt
        by_cases h7 : op = 7
        · exact .inl ⟨h7, if_pos h7⟩
        · by_cases h8 : op = 8
          · exact .inr (.inl ⟨h8, by rw [if_neg h7, if_pos h8]⟩)
          · exact .inr (.inr ⟨h7, h8, by rw [if_neg h7, if_neg h8]⟩)
      generalize opAt op t = oa at *
      have hwr := HBW.out.size
      have HBA := hid ((brefl wr).alloc (Nat.le_refl _) (.cells #[.bool false, .int .i64 xi, .string xs] 42))
      have HKA := hid (HRNw.out.mono HBA.out)
      have HCA := hid (HRCw.out.mono HBA.out)
      obtain ⟨m0, m1, m2⟩ := cell3 HKA.out
      obtain ⟨p0, p1, p2⟩ := cell3 HCA.out
      cases hb
      · have HHN2 : Hid (hitN op (vi, vs) args (t + 1) = hn0) := hid (by rw [HHN.out]; rfl)
        clear HHN
        rcases hop with ⟨rfl, rfl⟩ | ⟨rfl, rfl⟩ | ⟨h7, h8, rfl⟩
        all_goals try have e7 : (oa == 7) = false := by simp [h7]
        all_goals try have e8 : (oa == 8) = false := by simp [h8]
        all_goals go_wp2_with (first
          | (go_at_call 64; refine (HOT.out _).mono ?_; rintro e w2 ⟨rfl, hb2⟩; have HB2 := hid hb2; clear hb2)
          | (go_at_call 63; refine (HST.out _).mono ?_; rintro e w3 ⟨rfl, hw3⟩; replace hw3 := hw3.symm; subst hw3))
        all_goals go_roundw
        all_goals try case rel => exact ⟨t + 1, by omega, by go_num, by rw [HHN2.out], hid (Below.then' (HBW.out.alloc HBW.out.size _) HB2.out (by simp; omega))⟩
        all_goals try case measure => simp [intOf]; omega
      · have HHN2 : Hid (hitN op (vi, vs) args (t + 1) = hn0 + 1) := hid (by rw [HHN.out]; rfl)
        clear HHN
        rcases hop with ⟨rfl, rfl⟩ | ⟨rfl, rfl⟩ | ⟨h7, h8, rfl⟩
        all_goals try have e7 : (oa == 7) = false := by simp [h7]
        all_goals try have e8 : (oa == 8) = false := by simp [h8]
        all_goals go_wp2_with (first
          | (go_at_call 64; refine (HOT.out _).mono ?_; rintro e w2 ⟨rfl, hb2⟩; have HB2 := hid hb2; clear hb2)
          | (go_at_call 63; refine (HST.out _).mono ?_; rintro e w3 ⟨rfl, hw3⟩; replace hw3 := hw3.symm; subst hw3))
        all_goals go_roundw
        all_goals try case rel => exact ⟨t + 1, by omega, by go_num, by rw [HHN2.out]; go_num, hid (Below.then' (HBW.out.alloc HBW.out.size _) HB2.out (by simp; omega))⟩
        all_goals try case measure => simp [intOf]; omega
    · obtain rfl : t = q := by omega
      generalize hitN op (vi, vs) args t = hn0 at *
      by_cases h8 : op = 8
      · subst h8
        by_cases h2 : hn0 = 2
        · subst h2
          obtain rfl : R = 2 := by rw [HR2.out]; rfl
          go_wp2_with fail
          go_ret
          exact ⟨rfl, HBF.out⟩
        · obtain rfl : R = 0 := by rw [HR2.out]; simp [hitYes, h2]
          have e2 : ((hn0 : Int) == 2) = false := by simp; omega
          go_wp2_with fail
          go_ret
          exact ⟨rfl, HBF.out⟩
      · have e8 : (op == 8) = false := by simp [h8]
        have e8b : (op != 8) = true := by simp [h8]
        by_cases h0 : 0 < hn0
        · obtain rfl : R = 2 := by rw [HR2.out]; simp [hitYes, h8, h0]
          have e0 : (0 : Int) < (hn0 : Int) := by omega
          go_wp2_with fail
          go_ret
          exact ⟨rfl, HBF.out⟩
        · obtain rfl : hn0 = 0 := by omega
          obtain rfl : R = 0 := by rw [HR2.out]; simp [hitYes, h8]
          go_wp2_with fail
          go_ret
          exact ⟨rfl, HBF.out⟩
end Go.Proofs.YthonbfojpbfmgaaGreatDoor

/- The document's Filter. -/
set_option linter.unusedVariables false
set_option linter.unusedSimpArgs false
set_option linter.unnecessarySimpa false
set_option maxRecDepth 100000
namespace Go.Proofs.YthonbfojpbfmgaaGreatDoor
open Go.RowKit

theorem rfB_snoc (kd rows : Nat) (op : Int) (args : List C3) (xs : List Nat) (t : Int) (r : Nat) : bools (rfB kd rows op args xs t (r + 1)) = bools (rfB kd rows op args xs t r) ++ [.bool (rfV kd rows op args xs r == t)] := by
  unfold rfB bools
  rw [List.range_succ, List.map_append, List.map_append]
  congr 1
/-- a list that lies in a block of its own abides a write elsewhere -/
def RfAns (w w' : World) (e : Ending) (code : Int) (zt zu : List Nat) : Prop := ∃ tv uv, e = .returned (.tuple #[.agg #[tv, uv], .int .i64 code]) ∧ Rd w' tv zt.length 1 (u64s zt) ∧ Rd w' uv zu.length 1 (u64s zu) ∧ Below w.heap.size w w'
theorem rd_none1 (w : World) : Rd w (.slice none 0 0) ([] : List Nat).length 1 (u64s []) := ⟨rfl, .inl ⟨⟨_, rfl⟩, rfl⟩⟩
set_option maxHeartbeats 16000000 in
theorem refFilter_any (kind rows op col : Int) (v av : Value) (xs : List Nat) (args : List C3) (w : World) (hv : Rd w v xs.length 1 (u8s xs)) (hb : ∀ x ∈ xs, x < 256) (hl : xs.length ≤ 16777216) (hx : Rd w av args.length 3 (cells3 args)) :
    Calls Tryz.prog 10 #[.int .i64 kind, .int .i64 rows, v, .agg #[.int .i64 op, .int .i64 col, av]] w fun e w' => RfAns w w' e (rfCode kind rows op col args xs) (rfZ kind rows op col args xs 2) (rfZ kind rows op col args xs 1) := by
  have HDC := hid (fun (w2 : World) (h : Below w.heap.size w w2) => refDecode_any kind rows v xs w2 (hv.mono h) hb hl)
  have HLK := hid (fun (w2 : World) (h : Below w.heap.size w w2) => refLeafOK_any kind op col av args w2 (hx.mono h))
  have HLF := hid (fun (w2 : World) (h : Below w.heap.size w w2) (hk : leafR kind ⟨op, col, args⟩ = true) (nl : Bool) (vi : Int) (vs : ByteArray) => leafOf_any kind op col av args nl vi vs w2 (hx.mono h) hk)
  obtain ⟨Z2, hZ2⟩ : ∃ Z2, rfZ kind rows op col args xs 2 = Z2 := ⟨_, rfl⟩
  obtain ⟨Z1, hZ1⟩ : ∃ Z1, rfZ kind rows op col args xs 1 = Z1 := ⟨_, rfl⟩
  obtain ⟨RC, hRC⟩ : ∃ RC, rfCode kind rows op col args xs = RC := ⟨_, rfl⟩
  have HZ2 := hid hZ2; have HZ1 := hid hZ1; have HRC := hid hRC
  rw [hZ2, hZ1, hRC]
  clear hZ2 hZ1 hRC
  obtain ⟨A0, c0, rfl, _, _, _⟩ := hv.form
  obtain ⟨A1, ca, rfl, _, _, _⟩ := hx.form
  clear hv hx hb
  obtain ⟨an, han⟩ : ∃ an, args.length = an := ⟨_, rfl⟩
  simp only [han] at HLK HLF ⊢
  clear han
  obtain ⟨ra, rz, hbw⟩ := rows2f (u := w) (X := #[.int .i64 op, .int .i64 col, .slice A1 an ca]) (Y := #[.slice none 0 0, .slice none 0 0]) (eX := 25) (eY := 30)
  have HRN := hid ra; have HRP := hid rz; have HB0 := hid hbw
  clear ra rz hbw
  have hsz0 : w.heap.size + 1 < ((w.alloc (.cells #[.int .i64 op, .int .i64 col, .slice A1 an ca] 25)).alloc (.cells #[.slice none 0 0, .slice none 0 0] 30)).heap.size := by simp
  obtain ⟨xn, hxn⟩ : ∃ xn, xs.length = xn := ⟨_, rfl⟩
  simp only [hxn] at HDC hl ⊢
  clear hxn
  go_enter Tryz.func10, Tryz.ntmps10
  go_upto_region 1 with fail
  generalize (w.alloc (.cells #[.int .i64 op, .int .i64 col, .slice A1 an ca] 25)).alloc (.cells #[.slice none 0 0, .slice none 0 0] 30) = w0 at *
  have HSZ0 := hid hsz0
  clear hsz0
  by_cases hc0 : refCode kind rows xs = 0
  rotate_left
  · obtain ⟨cc, hcc⟩ : ∃ cc, refCode kind rows xs = cc := ⟨_, rfl⟩
    have hrc : RC = cc := by rw [← HRC.out]; unfold rfCode; rw [if_neg hc0, hcc]
    have hz : ∀ t, rfZ kind rows op col args xs t = [] := fun t => by unfold rfZ; rw [HRC.out, hrc, ← hcc, if_neg hc0]
    obtain rfl : Z2 = [] := by rw [← HZ2.out, hz]
    obtain rfl : Z1 = [] := by rw [← HZ1.out, hz]
    subst hrc
    have HDC0 := hid (HDC.out w0 HB0.out)
    rw [hcc] at hc0 HDC0
    have e0 : (RC == 0) = false := by simp [hc0]
    have e0b : (RC != 0) = true := by simp [hc0]
    clear hcc hz HDC HLK HLF
    go_wp2_with (go_at_call 31; refine HDC0.out.mono ?_; rintro e w1 ⟨u, rfl, hou, hb1⟩; obtain ⟨UA, uc, rfl⟩ := owns3_form hou; have HB1 := hid hb1; have HRP1 := hid (HRP.out.mono hb1); clear hou hb1; have z0 := HRP1.out.cell 0; have z1 := HRP1.out.cell 1; have f0 := HRP1.out.frozen 0; have f1 := HRP1.out.frozen 1)
    have HBF := hid (below_set (below_set (HB0.out.trans (HB1.out.mono HB0.out.size)) (w.heap.size + 1) 0 (.slice none 0 0) (by omega)) (w.heap.size + 1) 1 (.slice none 0 0) (by omega))
    have HRF := hid ((HRP1.out.set 0 (.slice none 0 0)).set 1 (.slice none 0 0))
    refine bodyPost_ret (v := .tuple #[.agg #[.slice none 0 0, .slice none 0 0], .int .i64 RC]) ?_ rfl ⟨_, _, rfl, rd_none1 _, rd_none1 _, HBF.out⟩
    have y0 := HRF.out.cell 0
    have y1 := HRF.out.cell 1
    simp at y0 y1
    simp [results, Tryz.results10, go_sem, y0, y1]
  have HDC0 := hid (HDC.out w0 HB0.out)
  rw [hc0] at HDC0
  by_cases hlf : leafR kind ⟨op, col, args⟩ = true
  rotate_left
  · have hlf2 : leafR kind ⟨op, col, args⟩ = false := by simpa using hlf
    have hrc : RC = 2 := by rw [← HRC.out]; unfold rfCode; rw [if_pos hc0, if_neg hlf]
    have hz : ∀ t, rfZ kind rows op col args xs t = [] := fun t => by unfold rfZ; rw [HRC.out, hrc, if_neg (by decide)]
    obtain rfl : Z2 = [] := by rw [← HZ2.out, hz]
    obtain rfl : Z1 = [] := by rw [← HZ1.out, hz]
    subst hrc
    rw [hlf2] at HLK
    clear hz HDC HLF hlf hlf2 hc0
    go_wp2_with (first
      | (go_at_call 31; refine HDC0.out.mono ?_; rintro e w1 ⟨u, rfl, hou, hb1⟩; obtain ⟨UA, uc, rfl⟩ := owns3_form hou; have HB1 := hid hb1; have HRN1 := hid (HRN.out.mono hb1); have HRP1 := hid (HRP.out.mono hb1); clear hou hb1; obtain ⟨k0, k1, k2⟩ := cell3 HRN1.out)
      | (go_at_call 32; refine (HLK.out _ (HB0.out.trans (HB1.out.mono HB0.out.size))).mono ?_; rintro e w2 ⟨rfl, hb2⟩; have HB2 := hid hb2; have HRP2 := hid (HRP1.out.mono hb2); clear hb2; have z0 := HRP2.out.cell 0; have z1 := HRP2.out.cell 1; have f0 := HRP2.out.frozen 0; have f1 := HRP2.out.frozen 1))
    have HBF := hid (below_set (below_set ((HB0.out.trans (HB1.out.mono HB0.out.size)).trans (HB2.out.mono (HB0.out.trans (HB1.out.mono HB0.out.size)).size)) (w.heap.size + 1) 0 (.slice none 0 0) (by omega)) (w.heap.size + 1) 1 (.slice none 0 0) (by omega))
    have HRF := hid ((HRP2.out.set 0 (.slice none 0 0)).set 1 (.slice none 0 0))
    refine bodyPost_ret (v := .tuple #[.agg #[.slice none 0 0, .slice none 0 0], .int .i64 2]) ?_ rfl ⟨_, _, rfl, rd_none1 _, rd_none1 _, HBF.out⟩
    have y0 := HRF.out.cell 0
    have y1 := HRF.out.cell 1
    simp at y0 y1
    simp [results, Tryz.results10, go_sem, y0, y1]
  rw [hlf] at HLK
  have hrc : RC = 0 := by rw [← HRC.out]; unfold rfCode; rw [if_pos hc0, if_pos hlf]
  subst hrc
  have hg : (isKind kind && isRows rows) = true := by
    by_cases h : (isKind kind && isRows rows) = true
    · exact h
    · exfalso; unfold refCode at hc0; rw [if_neg h] at hc0; cases hc0
  have hrows : 0 ≤ rows ∧ rows ≤ 65536 := by
    rw [Bool.and_eq_true] at hg
    have h2 := hg.2
    unfold isRows at h2
    exact of_decide_eq_true h2
  obtain ⟨n, rfl⟩ := Int.eq_ofNat_of_zero_le hrows.1
  have hn6 : n ≤ 65536 := by omega
  have hrl : refLen kind n xs = n := by unfold refLen; rw [if_pos hc0, Int.toNat_natCast]
  have hrcl : refCells kind n xs = rCells kind.toNat n xs := by unfold refCells; rw [if_pos hc0, Int.toNat_natCast]
  rw [hrl, hrcl] at HDC0
  unfold rCells at HDC0
  have hZ2 : Z2 = bmL (rfB kind.toNat n op args xs 2 n) := by rw [← HZ2.out]; unfold rfZ; rw [if_pos HRC.out, Int.toNat_natCast]
  have hZ1 : Z1 = bmL (rfB kind.toNat n op args xs 1 n) := by rw [← HZ1.out]; unfold rfZ; rw [if_pos HRC.out, Int.toNat_natCast]
  clear HZ2 HZ1 HRC
  have HZ2 := hid hZ2; have HZ1 := hid hZ1
  have HLFK := hid (fun (w2 : World) (h : Below w.heap.size w w2) (nl : Bool) (vi : Int) (vs : ByteArray) => HLF.out w2 h hlf nl vi vs)
  have HRV : Hid (∀ r, rfV kind.toNat n op args xs r = leafV op args (cA (rWs n xs) r) (cB (rWs n xs) (rPay kind.toNat n xs).2 r, cC (rWs n xs) (rPay kind.toNat n xs).2 r)) := hid (fun r => rfl)
  have HSN := hid (fun t r => rfB_snoc kind.toNat n op args xs t r)
  have HRL := hid (fun t r => rfB_len kind.toNat n op args xs t r)
  have HR0 : Hid (∀ t, rfB kind.toNat n op args xs t 0 = []) := hid (fun t => rfl)
  generalize cA (rWs n xs) = FA at *
  generalize cB (rWs n xs) (rPay kind.toNat n xs).2 = FB at *
  generalize cC (rWs n xs) (rPay kind.toNat n xs).2 = FC at *
  generalize rfB kind.toNat n op args xs = RB at *
  generalize rfV kind.toNat n op args xs = RV at *
  clear hlf hc0 hg hrows hrl hrcl HLF HDC hZ2 hZ1
  go_wp2_with (first
      | (go_at_call 31; refine HDC0.out.mono ?_; rintro e w1 ⟨u, rfl, hou, hb1⟩; obtain ⟨UA, uc, rfl⟩ := owns3_form hou; have HOU := hid hou; have HB1 := hid hb1; have HRN1 := hid (HRN.out.mono hb1); have HRP1 := hid (HRP.out.mono hb1); clear hou hb1; obtain ⟨k0, k1, k2⟩ := cell3 HRN1.out)
      | (go_at_call 32; refine (HLK.out _ (HB0.out.trans (HB1.out.mono HB0.out.size))).mono ?_; rintro e w2 ⟨rfl, hb2⟩; have HB2 := hid hb2; clear hb2))
  clear k0 k1 k2
  have HB01 := hid (HB0.out.trans (HB1.out.mono HB0.out.size))
  have HB02 := hid (HB01.out.trans (HB2.out.mono HB01.out.size))
  have HRN2 := hid (HRN1.out.mono HB2.out)
  have HRP2 := hid (HRP1.out.mono HB2.out)
  have HU2 := hid ((owns3_rd HOU.out).mono HB2.out)
  have hsz2 : w.heap.size + 1 < w2.heap.size := by have := HSZ0.out; have := HB1.out.size; have := HB2.out.size; omega
  have HSZ2 := hid hsz2
  clear HOU HB1 HB2 HRN1 HRP1 HRN HRP HB01 HDC0 HLK hsz2
  go_loopw [12, 13, 38] (fun hv ov i wr => ∃ r : Nat, r ≤ n ∧ i = .int .i64 r ∧ Hid (wr.ownsRow w2.heap.size 4 1 hv r (bools (RB 2 r))) ∧ Hid (wr.ownsRow w2.heap.size 4 1 ov r (bools (RB 1 r))) ∧ Hid (Apart hv ov) ∧ Hid (Below w2.heap.size w2 wr)) (fun _ _ i _ => n - (intOf i).toNat)
  case atStart => exact ⟨0, by omega, rfl, hid (by rw [HR0.out]; exact World.ownsRow_nil _ _ _ _), hid (by rw [HR0.out]; exact World.ownsRow_nil _ _ _ _), hid (fun k h => by cases h), hid (brefl w2)⟩
  case round =>
    obtain ⟨r, hrn, rfl, HE, HF, HAP, HB⟩ := hrel
    have HBF := hid (HB02.out.trans (HB.out.mono HB02.out.size))
    have HRNw := hid (HRN2.out.mono HB.out)
    obtain ⟨k0, k1, k2⟩ := cell3 HRNw.out
    obtain ⟨E1, ce1, rfl, _⟩ := owns_form HE.out
    obtain ⟨F1, cf1, rfl, _⟩ := owns_form HF.out
    have HSZ := hid HB.out.size
    by_cases hlt : r < n
    · obtain ⟨b, o, rfl, hs⟩ := (HU2.out.mono HB.out).at (by omega)
      obtain ⟨g0, g1, g2⟩ := cellsUp_get FA FB FC n r hlt
      have d0 : wr.cell? ⟨b, o + r * 3, none⟩ = _ := hs _ _ g0
      have d1 : wr.cell? ⟨b, o + (r * 3 + 1), none⟩ = _ := hs _ _ g1
      have d2 : wr.cell? ⟨b, o + (r * 3 + 2), none⟩ = _ := hs _ _ g2
      rw [← Nat.add_assoc] at d1 d2
      have HVR := hid (HRV.out r)
      have HN2 := hid (HSN.out 2 r)
      have HN1 := hid (HSN.out 1 r)
      clear hs g0 g1 g2
      generalize FA r = xa at *
      generalize FB r = xb at *
      generalize FC r = xc at *
      generalize RV r = vv at *
      have HLFr := hid (fun (w3 : World) (h : Below w.heap.size w w3) => HLFK.out w3 h xa xb xc)
      rw [← HVR.out] at HLFr
      have HBA := hid ((brefl wr).alloc (Nat.le_refl _) (.cells #[.bool xa, .int .i64 xb, .string xc] 42))
      have HKA := hid (HRNw.out.mono HBA.out)
      obtain ⟨m0, m1, m2⟩ := cell3 HKA.out
      go_upto_region 11 with (go_at_call 33; refine (HLFr.out _ (HBF.out.alloc HBF.out.size _)).mono ?_; rintro e w3 ⟨rfl, hb3⟩; have HB3 := hid (bthen HBA.out hb3); clear hb3)
      have HE3 := hid (owns_below HE.out HB3.out)
      have HF3 := hid (owns_below HF.out HB3.out)
      have HB23 := hid (bthen HB.out HB3.out)
      have HS3 := hid HB23.out.size
      clear k0 k1 k2 m0 m1 m2 d0 d1 d2 HKA HBA HE HF
      go_upto_region 12 with (at_builtin; refine wpList_append1W rfl (.tmp 45) (.tmp 48) rfl 4 (.bool false) 1 Tryz.underlying52 Tryz.infoBool rfl rfl rfl HE3.out HS3.out (by rfl) (by unfold maxLen; omega) (by omega) ?_; intro v5 w5 ho5 hb5 hz5 hk5 hw5)
      have HO5 := hid ho5
      have HB5 := hid hb5
      have HK5 := hid (show Kp _ w3 w5 v5 from ⟨hk5, fun k hk => by
        rcases hw5 with h | h
        · exact .inl (by rw [← h]; exact hk.symm)
        · exact .inr (h.1 k hk)⟩)
      have HF5 := hid (owns_kp HF3.out HK5.out HAP.out)
      have HAP5 := hid (HAP.out.left HK5.out (fun k hk => (HF3.out.lt k hk).2))
      have HS5 := hid (Nat.le_trans HS3.out hz5)
      have HB25 := hid (HB23.out.trans HB5.out)
      clear ho5 hb5 hz5 hk5 hw5 HE3 HF3
      obtain ⟨E2, ce2, rfl, _⟩ := owns_form HO5.out
      go_wp2_with (at_builtin; refine wpList_append1W rfl (.tmp 50) (.tmp 53) rfl 4 (.bool false) 1 Tryz.underlying52 Tryz.infoBool rfl rfl rfl HF5.out HS5.out (by rfl) (by unfold maxLen; omega) (by omega) ?_; intro v6 w6 ho6 hb6 hz6 hk6 hw6)
      have HO6 := hid ho6
      have HB6 := hid hb6
      have HK6 := hid (show Kp _ w5 w6 v6 from ⟨hk6, fun k hk => by
        rcases hw6 with h | h
        · exact .inl (by rw [← h]; exact hk.symm)
        · exact .inr (h.1 k hk)⟩)
      clear ho6 hb6 hz6 hk6 hw6
      have HE6 := hid (owns_kp HO5.out HK6.out HAP5.out.symm)
      have HAP6 := hid (HAP5.out.right HK6.out (fun k hk => (HO5.out.lt k hk).2))
      go_roundw
      case rel => exact ⟨r + 1, by omega, by go_num, hid (by rw [HN2.out]; exact HE6.out), hid (by rw [HN1.out]; exact HO6.out), HAP6, hid (HB25.out.trans HB6.out)⟩
      case measure => simp [intOf]; omega
    · obtain rfl : r = n := by omega
      have HL2 := HRL.out 2 r
      have HL1 := HRL.out 1 r
      generalize RB 2 r = L2 at *
      generalize RB 1 r = L1 at *
      have HRE : Hid (Rd wr (.slice E1 r ce1) L2.length 1 (bools L2)) := hid (by rw [HL2]; exact owns_rd HE.out)
      have HRF : Hid (Rd wr (.slice F1 r cf1) L1.length 1 (bools L1)) := hid (by rw [HL1]; exact owns_rd HF.out)
      have HM2 := hid (bitmapOf_any (.slice E1 r ce1) L2 wr HRE.out (by omega))
      have HM1 := hid (fun (w3 : World) (h : Below wr.heap.size wr w3) => bitmapOf_any (.slice F1 r cf1) L1 w3 (HRF.out.mono h) (by omega))
      have hz2 := HZ2.out
      have hz1 := HZ1.out
      subst hz2 hz1
      clear HZ2 HZ1
      have HRPw := hid (HRP2.out.mono HB.out)
      clear HL2 HL1 HE HF HAP HRE HRF
      go_wp2_with (first
        | (go_at_call_of 34 (Value.slice E1 r ce1); refine HM2.out.mono ?_; rintro e w3 ⟨r3, rfl, ho3, hb3⟩; have HO3 := hid ho3; have HB3 := hid hb3; clear ho3 hb3)
        | (go_at_call 34; refine (HM1.out w3 HB3.out).mono ?_; rintro e w4 ⟨r4, rfl, ho4, hb4⟩; have HO4 := hid ho4; have HB4 := hid hb4; have HRP4 := hid ((HRPw.out.mono HB3.out).mono hb4); clear ho4 hb4; obtain ⟨D3, c3, rfl, _⟩ := owns_form HO3.out; obtain ⟨D4, c4, rfl, _⟩ := owns_form HO4.out; have z0 := HRP4.out.cell 0; have z1 := HRP4.out.cell 1; have f0 := HRP4.out.frozen 0; have f1 := HRP4.out.frozen 1))
      have HB24 := hid (bthen HB.out (bthen HB3.out HB4.out))
      have HBX := hid (HB02.out.trans (HB24.out.mono HB02.out.size))
      have hs2 := HSZ2.out
      have hsw := HB.out.size
      have HBY := hid (below_set (below_set HBX.out (w.heap.size + 1) 0 (.slice D3 (bmL L2).length c3) (by omega)) (w.heap.size + 1) 1 (.slice D4 (bmL L1).length c4) (by omega))
      have HRX := hid ((HRP4.out.set 0 (.slice D3 (bmL L2).length c3)).set 1 (.slice D4 (bmL L1).length c4))
      have HCF := hid (((Chg.refl (w.heap.size + 1) (w.heap.size + 1) w4).setCell (w.heap.size + 1) 0 (.slice D3 (bmL L2).length c3) (.inl rfl)).setCell (w.heap.size + 1) 1 (.slice D4 (bmL L1).length c4) (.inl rfl))
      have HP3 := hid (owns_rd (owns_chg (owns_below HO3.out HB4.out) HCF.out (by omega) (by omega)))
      have HP4 := hid (owns_rd (owns_chg HO4.out HCF.out (by have := HB3.out.size; omega) (by have := HB3.out.size; omega)))
      refine bodyPost_ret (v := .tuple #[.agg #[.slice D3 (bmL L2).length c3, .slice D4 (bmL L1).length c4], .int .i64 0]) ?_ rfl ⟨_, _, rfl, HP3.out, HP4.out, HBY.out⟩
      have y0 := HRX.out.cell 0
      have y1 := HRX.out.cell 1
      simp at y0 y1
      simp [results, Tryz.results10, go_sem, y0, y1]
end Go.Proofs.YthonbfojpbfmgaaGreatDoor

/- The law's own comparison of pairs. -/
set_option linter.unusedVariables false
set_option linter.unusedSimpArgs false
set_option linter.unnecessarySimpa false
set_option maxRecDepth 20000
namespace Go.Proofs.YthonbfojpbfmgaaGreatDoor
open Go.RowKit

theorem rows2p {u : World} {X Y : Array Value} {eX eY : TypeId} : Row ((u.alloc (.cells X eX)).alloc (.cells Y eY)) u.heap.size eX X.toList ∧ Row ((u.alloc (.cells X eX)).alloc (.cells Y eY)) (u.heap.size + 1) eY Y.toList ∧ Below u.heap.size u ((u.alloc (.cells X eX)).alloc (.cells Y eY)) := by
  have e : u.heap.size + 1 = (u.alloc (.cells X eX)).heap.size := by simp
  refine ⟨?_, ?_, ((Below.refl u.heap.size u).alloc (Nat.le_refl _) _).alloc (by simp) _⟩
  · have h1 : Row (u.alloc (.cells X eX)) u.heap.size eX X.toList := by unfold Row; rw [heap_alloc_new]
    exact h1.mono ((Below.refl _ _).alloc (Nat.le_refl _) _)
  · rw [e]; unfold Row; rw [heap_alloc_new]
theorem cell2p {w : World} {g : Nat} {e : TypeId} {a b : Value} (h : Row w g e [a, b]) : w.cell? ⟨g, 0, none⟩ = some a ∧ w.cell? ⟨g, 1, none⟩ = some b := ⟨by rw [h.cell]; rfl, by rw [h.cell]; rfl⟩
set_option maxHeartbeats 2000000 in
theorem samePair_any (xv yv : Value) (pT pU : Value) (qT qU : Value) (T U : List Nat) (w : World) (hx : xv = .agg #[pT, pU]) (hy : yv = .agg #[qT, qU]) (h1 : Rd w pT T.length 1 (u64s T)) (h2 : Rd w pU U.length 1 (u64s U)) (h3 : Rd w qT T.length 1 (u64s T)) (h4 : Rd w qU U.length 1 (u64s U))
    (l1 : T.length ≤ maxLen) (l2 : U.length ≤ maxLen) :
    Calls Tryz.prog 11 #[xv, yv] w fun e w' => e = .returned (.bool true) ∧ Below w.heap.size w w' := by
  subst hx hy
  have HS1 := hid (fun (w2 : World) (hb : Below w.heap.size w w2) => sameWords_same pT qT T w2 (h1.mono hb) (h3.mono hb) l1)
  have HS2 := hid (fun (w2 : World) (hb : Below w.heap.size w w2) => sameWords_same pU qU U w2 (h2.mono hb) (h4.mono hb) l2)
  obtain ⟨A1, c1, rfl, _, _, _⟩ := h1.form
  obtain ⟨A2, c2, rfl, _, _, _⟩ := h2.form
  obtain ⟨A3, c3, rfl, _, _, _⟩ := h3.form
  obtain ⟨A4, c4, rfl, _, _, _⟩ := h4.form
  clear h1 h2 h3 h4
  go_enter Tryz.func11, Tryz.ntmps11
  go_upto_region 1 with fail
  obtain ⟨ra, rz, hbw⟩ := rows2p (u := w) (X := #[.slice A1 T.length c1, .slice A2 U.length c2]) (Y := #[.slice A3 T.length c3, .slice A4 U.length c4]) (eX := 30) (eY := 30)
  have HRA := hid ra; have HRB := hid rz; have HBW := hid hbw
  clear ra rz hbw
  generalize (w.alloc (.cells #[.slice A1 T.length c1, .slice A2 U.length c2] 30)).alloc (.cells #[.slice A3 T.length c3, .slice A4 U.length c4] 30) = w0 at *
  obtain ⟨a0, a1⟩ := cell2p HRA.out
  obtain ⟨b0, b1⟩ := cell2p HRB.out
  have nd : ∀ k, (∀ (b : Nat) (e : TypeId) (cs : List Value), Row w0 b e cs → Row (w0.drewN k) b e cs) := fun k b e cs h => h
  go_wp2_with (first
    | (go_at_call_of 18 (Value.slice A1 T.length c1); refine (HS1.out _ HBW.out).mono ?_; rintro e w1 ⟨rfl, k1, rfl⟩; have HRA1 := hid (nd k1 _ _ _ HRA.out); have HRB1 := hid (nd k1 _ _ _ HRB.out); obtain ⟨p0, p1⟩ := cell2p HRA1.out; obtain ⟨q0, q1⟩ := cell2p HRB1.out)
    | (go_at_call 18; refine (HS2.out _ (bdrew HBW.out k1)).mono ?_; rintro e w1 ⟨rfl, k2, rfl⟩))
  go_ret
  exact ⟨rfl, bdrew HBW.out (k1 + k2)⟩
end Go.Proofs.YthonbfojpbfmgaaGreatDoor
