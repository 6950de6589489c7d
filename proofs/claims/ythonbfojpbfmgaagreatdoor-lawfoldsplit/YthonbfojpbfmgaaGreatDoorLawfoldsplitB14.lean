/- A body that a look finds valid is valid. -/
import Derived.Test.YthonbfojpbfmgaaGreatDoorLawfoldsplitB13
set_option linter.unusedVariables false
set_option linter.unusedSimpArgs false
set_option linter.unnecessarySimpa false
set_option maxRecDepth 20000
namespace Go.Proofs.YthonbfojpbfmgaaGreatDoor
open Go.RowKit

theorem valid_S (rows : Nat) (xs : List Nat) (hb : ∀ x ∈ xs, x < 256) (hl : xs.length ≤ 16777216) (hrr : rows ≤ 65536) (h : lkOk_S rows xs = true) : Valid_S rows xs := by
  unfold lkOk_S headOk at h
  simp only [Bool.and_eq_true, Bool.not_eq_true', decide_eq_true_eq] at h
  obtain ⟨⟨hpk, hcd⟩, hOb, hOs, hOl⟩ := h
  have hnl := ((okPack_nat (wd := 1) (n := rows) _ (by decide) hrr).1 hpk).1
  rw [nWords1] at hnl
  have hx3 : (headOf rows xs).left.length ≤ 16777216 := Nat.le_trans (tkL_le _ _) (Nat.le_trans (tkL_le _ _) (Nat.le_trans (tkL_le _ _) hl))
  have hb3 : ∀ x ∈ (headOf rows xs).left, x < 256 := tkL_lt (tkL_lt (tkL_lt hb))
  have hnv : ∀ x ∈ (headOf rows xs).nulls, x < 18446744073709551616 := numL_lt (tk_lt (tkL_lt (tkL_lt hb))) (by omega)
  have key : (lkOut_S rows xs).list.length ≤ 16777216 ∧ (lkOut_S rows xs).ends.length ≤ 16777216 ∧ (∀ x ∈ (lkOut_S rows xs).lanes, x < 18446744073709551616) ∧
      ∀ j, j < cntOf rows (headOf rows xs).nulls → okv_S (headOf rows xs).codec (headOf rows xs).wd (lkOut_S rows xs).list (lkOut_S rows xs).ends (lkOut_S rows xs).lanes j := by
    unfold lkOut_S at *
    generalize cntOf rows (headOf rows xs).nulls = k at *
    generalize (headOf rows xs).left = x3 at *
    generalize (headOf rows xs).short = t3 at *
    generalize (headOf rows xs).codec = cd at *
    generalize (headOf rows xs).wd = wd at *
    have hcdk : 1 ≤ cd ∧ cd ≤ 3 := by
      unfold isCodec at hcd
      split at hcd
      · omega
      · simp only [decide_eq_true_eq] at hcd; unfold knum_S at hcd; omega
    unfold outPay_S at *
    by_cases h1 : cd = 1
    · subst h1
      rw [if_pos rfl] at *
      unfold outPlain_S at *
      simp only [Bool.and_eq_true, decide_eq_true_eq] at *
      have hf := rd_full_S hOb.1 hOs
      exact ⟨rd_len_S _ _ _ hx3, by simp, by simp, fun j hj => .inl ⟨rfl, by rw [hf]; exact hj⟩⟩
    by_cases h2 : cd = 2
    · subst h2
      rw [if_neg (by decide), if_pos rfl] at *
      unfold outDict_S at *
      split at hOb
      · cases hOb
      · rename_i hc
        rw [if_neg hc] at *
        have hxl1 : (tkL 4 x3).length ≤ 16777216 := Nat.le_trans (tkL_le _ _) hx3
        have hxb1 : ∀ x ∈ tkL 4 x3, x < 256 := tkL_lt hb3
        have hrl := rd_len_S (L.wordOf 8 (tk 4 x3)) (tkL 4 x3) (tkS 4 x3 t3) hxl1
        have hrb := (rd_left_S (L.wordOf 8 (tk 4 x3)) (tkL 4 x3) (tkS 4 x3 t3)).2 256 hxb1
        have hfl := @rd_full_S (L.wordOf 8 (tk 4 x3)) (tkL 4 x3) (tkS 4 x3 t3)
        generalize rdS (L.wordOf 8 (tk 4 x3)) (tkL 4 x3) (tkS 4 x3 t3) = R at *
        generalize L.wordOf 8 (tk 4 x3) = d at *
        obtain ⟨vals, ok, xl, s1⟩ := R
        simp only at *
        split at hOb
        · rename_i hoa
          rw [if_pos hoa] at *
          simp only at *
          obtain ⟨l1, l2, l3, l4⟩ := lanesB_true hOb
          have hs1 := (tkS_false hOs).2
          have hvl := hfl (by simp only [Bool.and_eq_true] at hoa; exact hoa.1) hs1
          refine ⟨hrl, by simp, restW_lt hrb, fun j hj => .inr (.inl ⟨rfl, ?_, l1, fun h0 => pack_bound l1 l3 j hj h0⟩)⟩
          have := l4 j hj
          unfold standsB at this
          simp at this
          omega
        · cases hOb
    · obtain rfl : cd = 3 := by omega
      rw [if_neg (by decide), if_neg (by decide)] at *
      unfold outRuns_S at *
      split at hOb
      · cases hOb
      · rename_i hc
        rw [if_neg hc] at *
        have hxl1 : (tkL 4 x3).length ≤ 16777216 := Nat.le_trans (tkL_le _ _) hx3
        have hxl2 : (tkL (4 * L.wordOf 8 (tk 4 x3)) (tkL 4 x3)).length ≤ 16777216 := Nat.le_trans (tkL_le _ _) hxl1
        have hrl := rd_len_S (L.wordOf 8 (tk 4 x3)) (tkL (4 * L.wordOf 8 (tk 4 x3)) (tkL 4 x3)) (tkS (4 * L.wordOf 8 (tk 4 x3)) (tkL 4 x3) (tkS 4 x3 t3)) hxl2
        have hfl := @rd_full_S (L.wordOf 8 (tk 4 x3)) (tkL (4 * L.wordOf 8 (tk 4 x3)) (tkL 4 x3)) (tkS (4 * L.wordOf 8 (tk 4 x3)) (tkL 4 x3) (tkS 4 x3 t3))
        have hsh := rd_short_S (L.wordOf 8 (tk 4 x3)) (tkL (4 * L.wordOf 8 (tk 4 x3)) (tkL 4 x3)) (tkS (4 * L.wordOf 8 (tk 4 x3)) (tkL 4 x3) (tkS 4 x3 t3))
        have hen := endsN_len (4 * L.wordOf 8 (tk 4 x3)) (tkL 4 x3) hxl1
        have hel : tkS (4 * L.wordOf 8 (tk 4 x3)) (tkL 4 x3) (tkS 4 x3 t3) = false → (numL 4 (tk (4 * L.wordOf 8 (tk 4 x3)) (tkL 4 x3))).length = L.wordOf 8 (tk 4 x3) := fun h => by
          rw [numL_length, tk_len (tkS_false h).1]; omega
        generalize rdS (L.wordOf 8 (tk 4 x3)) (tkL (4 * L.wordOf 8 (tk 4 x3)) (tkL 4 x3)) (tkS (4 * L.wordOf 8 (tk 4 x3)) (tkL 4 x3) (tkS 4 x3 t3)) = R at *
        generalize numL 4 (tk (4 * L.wordOf 8 (tk 4 x3)) (tkL 4 x3)) = es at *
        generalize tkS (4 * L.wordOf 8 (tk 4 x3)) (tkL 4 x3) (tkS 4 x3 t3) = s2 at *
        generalize L.wordOf 8 (tk 4 x3) = d at *
        obtain ⟨vals, ok, xl, s1⟩ := R
        simp only [Bool.and_eq_true] at *
        have hvl := hfl hOb.1 hOs
        have hed := hel (hsh hOs)
        have hre : runEnds (nI es) k = true := by
          cases hx : runEnds (nI es) k with
          | true => rfl
          | false => exact absurd (.inr hx) hc
        refine ⟨hrl, hen, by simp, fun j hj => .inr (.inr ⟨rfl, ?_, runEnds_asc hre⟩)⟩
        have := firstGe_lt hre ((j : Int) + 1) (by omega) (by omega)
        rw [nI_length, hed] at this
        rw [hvl]; exact this
  exact ⟨hnl, hnv, key.1, key.2.1, key.2.2.1, key.2.2.2⟩
end Go.Proofs.YthonbfojpbfmgaaGreatDoor

/- The code's answer and the plain answer meet: lists of values, lanes. Plain mathematics. -/
set_option linter.unusedVariables false
set_option linter.unusedSimpArgs false
set_option linter.unnecessarySimpa false
set_option maxRecDepth 20000
namespace Go.Proofs.YthonbfojpbfmgaaGreatDoor
open Go.RowKit

def pK_I (x : Int) : PV := pI x
def pK_S (x : ByteArray) : PV := pS x
theorem dl (p : Nat) (xs : List Nat) : (xs.drop p).length = xs.length - p := List.length_drop
/-- a list off the reader that is short is none -/
theorem rd_no_I (m : Nat) (X : List Nat) : (rdI m X true).2.1 = false := by
  unfold rdI tkS; simp
theorem tkS_true (n : Nat) (X : List Nat) : tkS n X true = true := by unfold tkS; simp
theorem rd_no_S (m : Nat) (X : List Nat) : (rdS m X true).2.1 = false := by
  unfold rdS
  simp only [tkS_true]
  split
  · rfl
  · simp
theorem rd_eq_I (m p : Nat) (xs : List Nat) (hp : p ≤ xs.length) :
    (rdI m (xs.drop p) false).2.1 = listOk 1 m p xs ∧ (listOk 1 m p xs = true → (rdI m (xs.drop p) false).1.map pK_I = listP 1 m p xs ∧ (rdI m (xs.drop p) false).2.2.1 = xs.drop (listNx 1 m p xs) ∧ (rdI m (xs.drop p) false).2.2.2 = false ∧ listNx 1 m p xs ≤ xs.length) := by
  have e1 : listOk 1 m p xs = decide (8 * m ≤ xs.length - p) := by
    unfold listOk numsOk; rw [if_pos rfl]; simp [hp]
  refine ⟨?_, fun h => ?_⟩
  · rw [e1]
    unfold rdI tkS
    rw [dl]
    by_cases h : 8 * m ≤ xs.length - p <;> simp [h]
  · rw [e1, decide_eq_true_eq] at h
    have e2 : listNx 1 m p xs = p + 8 * m := by
      unfold listNx numsOk; rw [if_pos rfl, if_pos (by simp [hp, h])]
    rw [e2]
    refine ⟨rfl, ?_, ?_, by omega⟩
    · unfold rdI tkL; simp only; rw [dl, if_pos h, List.drop_drop]
    · unfold rdI tkS; simp only; rw [dl, if_pos h]
theorem cutS_take (t : List Nat) (es : List Int) : ∀ (a sz : Int), 0 ≤ a → textEnd a es = some sz → cutS a (t.take sz.toNat) es = cutS a t es := by
  induction es with
  | nil => intro a sz _ _; rfl
  | cons e r ih =>
    intro a sz h0 h
    simp only [textEnd] at h
    split at h
    · cases h
    · rename_i hc
      have hle := textEnd_le r e sz h
      simp only [cutS]
      rw [ih e sz (by omega) h, List.drop_take, List.take_take, Nat.min_eq_left (by omega)]
theorem rd_eq_S (m p : Nat) (xs : List Nat) (hp : p ≤ xs.length) :
    (rdS m (xs.drop p) false).2.1 = listOk 2 m p xs ∧ (listOk 2 m p xs = true → (rdS m (xs.drop p) false).1.map pK_S = listP 2 m p xs ∧ (rdS m (xs.drop p) false).2.2.1 = xs.drop (listNx 2 m p xs) ∧ (rdS m (xs.drop p) false).2.2.2 = false ∧ listNx 2 m p xs ≤ xs.length) := by
  have e0 : listOk 2 m p xs = strsOk m p xs := by unfold listOk; rw [if_neg (by decide)]
  have e3 : listNx 2 m p xs = strsNx m p xs := by unfold listNx; rw [if_neg (by decide)]
  have e4 : listP 2 m p xs = (strsV m p xs).map pS := by unfold listP; rw [if_neg (by decide)]
  rw [e0, e3, e4]
  by_cases hn : 4 * m ≤ xs.length - p
  · have hno : numsOk 4 m p xs.length = true := by unfold numsOk; exact decide_eq_true ⟨hp, hn⟩
    have t1 : tkL (4 * m) (xs.drop p) = xs.drop (p + 4 * m) := by unfold tkL; rw [dl, if_pos hn, List.drop_drop]
    have t2 : tkS (4 * m) (xs.drop p) false = false := by unfold tkS; rw [dl, if_pos hn]
    unfold strsV strsNx
    have e1 : strsOk m p xs = match textEnd 0 (nI (numL 4 (tk (4 * m) (xs.drop p)))) with
        | none => false
        | some sz => decide (sz ≤ ((xs.length - (p + 4 * m) : Nat) : Int)) := by unfold strsOk; rw [hno, Bool.true_and]; rfl
    unfold rdS
    simp only [t1, t2]
    rw [e1]
    generalize nI (numL 4 (tk (4 * m) (xs.drop p))) = ends at *
    cases hte : textEnd 0 ends with
    | none => simp
    | some sz =>
      have hs0 := textEnd_le ends 0 sz hte
      simp only
      have t3 : tkS sz.toNat (xs.drop (p + 4 * m)) false = !decide (sz ≤ ((xs.length - (p + 4 * m) : Nat) : Int)) := by
        unfold tkS; rw [dl]
        by_cases h : sz ≤ ((xs.length - (p + 4 * m) : Nat) : Int)
        · rw [if_pos (by omega), decide_eq_true h]; rfl
        · rw [if_neg (by omega), decide_eq_false h]; rfl
      rw [t3]
      by_cases h : sz ≤ ((xs.length - (p + 4 * m) : Nat) : Int)
      · have hd := decide_eq_true h
        simp only [hd, Bool.not_true, Bool.false_eq_true, if_false, if_true, true_and]
        intro _
        have hz : sz.toNat ≤ xs.length - (p + 4 * m) := by omega
        have t4 : tk sz.toNat (xs.drop (p + 4 * m)) = (xs.drop (p + 4 * m)).take sz.toNat := by unfold tk; rw [dl, if_pos hz]
        have t5 : tkL sz.toNat (xs.drop (p + 4 * m)) = xs.drop (p + 4 * m + sz.toNat) := by unfold tkL; rw [dl, if_pos hz, List.drop_drop]
        rw [t4, t5, cutS_take _ _ 0 sz (by omega) hte]
        refine ⟨rfl, ?_, ?_⟩
        · rw [tsz, hte]; rfl
        · rw [tsz, hte]; simp only [Option.getD_some]; omega
      · have hd := decide_eq_false h
        simp [hd]
  · have hno : numsOk 4 m p xs.length = false := by unfold numsOk; exact decide_eq_false (by omega)
    have e1 : strsOk m p xs = false := by unfold strsOk; rw [hno, Bool.false_and]
    rw [e1]
    have t2 : tkS (4 * m) (xs.drop p) false = true := by unfold tkS; rw [dl, if_neg hn]
    refine ⟨?_, fun h => by cases h⟩
    unfold rdS
    simp only [t2, tkS_true]
    split
    · rfl
    · simp
theorem noPair_map {α β : Type} (r : β → β → Bool) (f : α → β) : ∀ xs : List α, noPair r (xs.map f) = noPair (fun a b => r (f a) (f b)) xs
  | [] => rfl
  | [a] => rfl
  | a :: b :: t => by
    have ih := noPair_map r f (b :: t)
    simp only [List.map_cons, noPair] at ih ⊢
    rw [ih]
theorem ordS_self : ordS ByteArray.empty ByteArray.empty = 0 := by decide +kernel
theorem ge_pK_I (a b : Int) : geP (pK_I a) (pK_I b) = geI a b := by
  unfold geP geI pK_I pI ordP
  simp only [ordS_self]
  by_cases h1 : a < b
  · rw [if_pos h1, decide_eq_false (by omega), decide_eq_false (by omega)]
  · rw [if_neg h1]
    by_cases h2 : b < a
    · rw [if_pos h2, decide_eq_true (by omega), decide_eq_true (by omega)]
    · rw [if_neg h2, decide_eq_true (by omega), decide_eq_true (by omega)]
theorem eq_pK_I (a b : Int) : eqP (pK_I a) (pK_I b) = eqI a b := by
  unfold eqP eqI pK_I pI ordP
  simp only [ordS_self]
  by_cases h1 : a < b
  · rw [if_pos h1, decide_eq_false (by omega)]
    simp; omega
  · rw [if_neg h1]
    by_cases h2 : b < a
    · rw [if_pos h2, decide_eq_false (by omega)]
      simp; omega
    · rw [if_neg h2, decide_eq_true (by omega)]
      simp; omega
theorem ordP_S (a b : ByteArray) : ordP (pK_S a) (pK_S b) = ordS a b := by
  unfold ordP pK_S pS
  simp
theorem ge_pK_S (a b : ByteArray) : geP (pK_S a) (pK_S b) = geS a b := by
  unfold geP geS
  rw [ordP_S]
  unfold ordS
  cases h : ltS a b
  · simp only [Bool.false_eq_true, if_false, Bool.not_false]
    split <;> decide
  · simp
theorem bytesLess_irrefl : ∀ l : List UInt8, Op.bytesLess l l = false := by
  intro l
  induction l with
  | nil => rfl
  | cons a r ih => simp [Op.bytesLess, ih]
theorem eq_pK_S (a b : ByteArray) : eqP (pK_S a) (pK_S b) = eqS a b := by
  unfold eqP
  rw [ordP_S]
  unfold ordS
  cases h : ltS a b
  · cases h2 : eqS a b
    · simp
    · simp
  · cases h2 : eqS a b
    · simp
    · unfold eqS at h2
      have h3 : a.toList = b.toList := by simpa using h2
      unfold ltS at h
      rw [h3, bytesLess_irrefl] at h
      cases h
theorem bmL_rank0' {fl : List Bool} (h : ∀ j, j < fl.length → fl.getD j false = false) : rankN (bmL fl) fl.length = 0 := by
  unfold rankN
  rw [List.filter_eq_nil_iff.2, List.length_nil]
  intro j hj
  have hj2 := List.mem_range.1 hj
  have hb := (bmL_isBm fl).2.2 j (by rw [(bmL_isBm fl).1]; have := nWords1_le fl.length; omega)
  simp only [h j hj2, Bool.and_false] at hb
  simp [hb]
theorem lanesB_iff (wd k : Nat) (op : Int) (ws : List Nat) (lim : Nat) (hop : isRel op = true) (hk : k ≤ 65536) :
    lanesB wd k op ws lim = true ↔ okPack wd k ws = true ∧ ∀ j, j < k → standsB op (L.laneOf wd ws j) lim = false := by
  constructor
  · intro h
    obtain ⟨h1, h2, h3, h4⟩ := lanesB_true h
    exact ⟨(okPack_nat ws h1 h2).2 h3, h4⟩
  · rintro ⟨h1, h2⟩
    have hc : cmpOk wd k op ws = true := by unfold cmpOk; rw [hop, h1]; rfl
    unfold lanesB
    rw [hc, Bool.true_and, cmpR, if_pos hc]
    have hfl : ((List.range (k : Int).toNat).map (cmpF (wd : Int).toNat op ws lim)).length = k := by simp
    have h6 : okPack 1 k (bmL ((List.range (k : Int).toNat).map (cmpF (wd : Int).toNat op ws lim))) = true := by
      refine (okPack_nat _ (by decide) hk).2 ?_
      have := L.pack_isPack (w := 1) (by omega) (((List.range (k : Int).toNat).map (cmpF (wd : Int).toNat op ws lim)).map Bool.toNat) (toNat_lt _)
      rwa [List.length_map, hfl] at this
    rw [rankR, if_pos ⟨h6, by omega, by omega⟩]
    have h7 := bmL_rank0' (fl := (List.range (k : Int).toNat).map (cmpF (wd : Int).toNat op ws lim)) (fun j hj => by
      rw [hfl] at hj
      have := h2 j hj
      simpa [List.getD, List.getElem?_map, List.getElem?_range hj, cmpF] using this)
    rw [hfl] at h7
    have hkk : (k : Int).toNat = k := Int.toNat_natCast k
    rw [hkk] at h7 ⊢
    rw [h7]
    rfl
abbrev kN_I : Nat := 1
abbrev kN_S : Nat := 2
theorem kN_or_I : kN_I = 1 ∨ kN_I = 2 := .inl rfl
theorem kN_or_S : kN_S = 1 ∨ kN_S = 2 := .inr rfl
theorem rdK_I (m p : Nat) (xs : List Nat) (hp : p ≤ xs.length) :
    (rdI m (xs.drop p) false).2.1 = listOk kN_I m p xs ∧ (listOk kN_I m p xs = true → (rdI m (xs.drop p) false).1.map pK_I = listP kN_I m p xs ∧ (rdI m (xs.drop p) false).2.2.1 = xs.drop (listNx kN_I m p xs) ∧ (rdI m (xs.drop p) false).2.2.2 = false ∧ listNx kN_I m p xs ≤ xs.length) := rd_eq_I m p xs hp
theorem rdK_S (m p : Nat) (xs : List Nat) (hp : p ≤ xs.length) :
    (rdS m (xs.drop p) false).2.1 = listOk kN_S m p xs ∧ (listOk kN_S m p xs = true → (rdS m (xs.drop p) false).1.map pK_S = listP kN_S m p xs ∧ (rdS m (xs.drop p) false).2.2.1 = xs.drop (listNx kN_S m p xs) ∧ (rdS m (xs.drop p) false).2.2.2 = false ∧ listNx kN_S m p xs ≤ xs.length) := rd_eq_S m p xs hp
theorem noP_ge_I (vs : List Int) : noPair geP (vs.map pK_I) = noPair geI vs := by rw [noPair_map]; congr 1; funext a b; exact ge_pK_I a b
theorem noP_ge_S (vs : List ByteArray) : noPair geP (vs.map pK_S) = noPair geS vs := by rw [noPair_map]; congr 1; funext a b; exact ge_pK_S a b
theorem noP_eq_I (vs : List Int) : noPair eqP (vs.map pK_I) = noPair eqI vs := by rw [noPair_map]; congr 1; funext a b; exact eq_pK_I a b
theorem noP_eq_S (vs : List ByteArray) : noPair eqP (vs.map pK_S) = noPair eqS vs := by rw [noPair_map]; congr 1; funext a b; exact eq_pK_S a b
theorem map_getD {α β : Type} (f : α → β) (xs : List α) (i : Nat) (a : α) (b : β) (h : i < xs.length) : (xs.map f).getD i b = f (xs.getD i a) := by
  simp [List.getD, List.getElem?_map, List.getElem?_eq_getElem h]
theorem drop_nil (n : Nat) (xs : List Nat) (h : n ≤ xs.length) : decide (xs.drop n = []) = decide (n = xs.length) := by
  by_cases h2 : n = xs.length
  · rw [decide_eq_true h2, decide_eq_true (List.drop_eq_nil_iff.2 (by omega))]
  · rw [decide_eq_false h2, decide_eq_false (fun h3 => h2 (by have := List.drop_eq_nil_iff.1 h3; omega))]
theorem endsUp_len (es : List Int) : ∀ l m : Int, endsUp l es = some m → l + es.length ≤ m := by
  induction es with
  | nil => intro l m h; simp [endsUp] at h; simp; omega
  | cons e r ih =>
    intro l m h
    simp only [endsUp] at h
    split at h
    · cases h
    · have := ih e m h
      simp only [List.length_cons]
      omega
theorem endsUp_all (es : List Int) : ∀ l m : Int, endsUp l es = some m → ∀ a, a < es.length → es.getD a 0 ≤ m := by
  induction es with
  | nil => intro l m h a ha; simp at ha
  | cons e r ih =>
    intro l m h a ha
    simp only [endsUp] at h
    split at h
    · cases h
    · cases a with
      | zero => have := endsUp_ge r e m h; simpa using this
      | succ a => have := ih e m h a (by simpa using ha); simpa using this
theorem fillP_get (heads : List PV) (ends : List Nat) : ∀ (i l : Nat), i ≤ ends.length → endsUp 0 (nI (ends.take i)) = some (l : Int) → ∀ j, j < l → (fillP heads ends i).getD j dfP = heads.getD (firstGe (nI ends) ((j : Int) + 1)) dfP
  | 0, l, _, h, j, hj => by simp [nI, endsUp] at h; omega
  | i + 1, l, hi, h, j, hj => by
    cases h0 : endsUp 0 (nI (ends.take i)) with
    | none =>
      have e : ends.take (i + 1) = ends.take i ++ [ends.getD i 0] := by
        rw [List.take_succ_eq_append_getElem (by omega)]; simp [List.getD, List.getElem?_eq_getElem (show i < ends.length by omega)]
      rw [e, nI_append, endsUp_none _ _ _ h0] at h
      cases h
    | some m =>
      have hm := endsUp_ge _ _ _ h0
      obtain ⟨m, rfl⟩ := Int.eq_ofNat_of_zero_le hm
      have hlen := fillP_len heads ends i m (by omega) h0
      have hall := endsUp_all _ _ _ h0
      rw [endsUp_step ends i m (by omega) h0] at h
      split at h
      · cases h
      · rename_i hc
        injection h with h
        have hl : ends.getD i 0 = l := by omega
        simp only [fillP]
        by_cases hjm : j < m
        · have := fillP_get heads ends i m (by omega) h0 j hjm
          rw [← this]
          simp only [List.getD]
          rw [List.getElem?_append_left (by omega)]
        · have hf : firstGe (nI ends) ((j : Int) + 1) = i := by
            refine firstGe_eq _ _ _ (by rw [nI_length]; omega) (fun a ha => ?_) (fun _ => ?_)
            · have h2 := hall a (by rw [nI_length, List.length_take]; omega)
              rw [nI_getD _ _ (by rw [List.length_take]; omega)] at h2
              rw [nI_getD _ _ (by omega)]
              have h3 : (ends.take i).getD a 0 = ends.getD a 0 := by simp only [List.getD, List.getElem?_take]; rw [if_pos ha]
              rw [h3] at h2
              omega
            · rw [nI_getD _ _ (by omega)]; omega
          rw [hf]
          simp only [List.getD]
          rw [List.getElem?_append_right (by omega), hlen, List.getElem?_replicate, if_pos (by simp only [List.getD] at hl; omega)]
          rfl
theorem restW_mod (xl : List Nat) : tkS (8 * (xl.length / 8)) xl false = false ∧ (decide (tkL (8 * (xl.length / 8)) xl = []) = decide (xl.length % 8 = 0)) := by
  have h : 8 * (xl.length / 8) ≤ xl.length := by omega
  refine ⟨by unfold tkS; rw [if_pos h], ?_⟩
  unfold tkL
  rw [if_pos h, drop_nil _ _ h]
  by_cases h2 : xl.length % 8 = 0
  · rw [decide_eq_true h2, decide_eq_true (by omega)]
  · rw [decide_eq_false h2, decide_eq_false (by omega)]
end Go.Proofs.YthonbfojpbfmgaaGreatDoor

/- The code's answer and the plain answer meet: plain lists, dictionaries, runs. -/
set_option linter.unusedVariables false
set_option linter.unusedSimpArgs false
set_option linter.unnecessarySimpa false
set_option maxRecDepth 20000
namespace Go.Proofs.YthonbfojpbfmgaaGreatDoor
open Go.RowKit

def good_I (O : Out_I) : Bool := O.b && (!O.short && decide (O.left = []))
theorem plain_meet_I (wd k P : Nat) (xs : List Nat) (hP : P ≤ xs.length) :
    good_I (outPlain_I wd k (xs.drop P) false) = (listOk kN_I k P xs && decide (listNx kN_I k P xs = xs.length) && decide (wd = 0)) ∧
    (listOk kN_I k P xs = true → (outPlain_I wd k (xs.drop P) false).list.map pK_I = listP kN_I k P xs) := by
  obtain ⟨h1, h2⟩ := rdK_I k P xs hP
  unfold good_I outPlain_I
  generalize rdI k (xs.drop P) false = q at *
  obtain ⟨vals, ok, xl, s1⟩ := q
  simp only at h1 h2 ⊢
  subst h1
  refine ⟨?_, fun h => (h2 h).1⟩
  cases ho : listOk kN_I k P xs
  · simp
  · obtain ⟨h3, h4, h5, h6⟩ := h2 ho
    rw [h5, h4, drop_nil _ _ h6]
    have hw : decide ((wd : Int) = 0) = decide (wd = 0) := by by_cases h : wd = 0 <;> simp [h]
    rw [hw]
    generalize decide (wd = 0) = a
    generalize decide (listNx kN_I k P xs = xs.length) = b
    cases a <;> cases b <;> rfl
theorem dict_meet_I (wd k P : Nat) (xs : List Nat) (hP : P ≤ xs.length) (hk : k ≤ 65536) :
    good_I (outDict_I wd k (xs.drop P) false) = ((dictR kN_I wd k P xs).1 && decide ((dictR kN_I wd k P xs).2.length = k)) ∧
    ((dictR kN_I wd k P xs).1 = true → ∀ j, j < k → (dictR kN_I wd k P xs).2.getD j dfP = pK_I ((outDict_I wd k (xs.drop P) false).list.getD (L.laneOf wd (outDict_I wd k (xs.drop P) false).lanes j) dfI)) := by
  by_cases h4 : 4 ≤ xs.length - P
  rotate_left
  · have e1 : dictR kN_I wd k P xs = (false, []) := by
      unfold dictR; rw [if_pos (.inl (by unfold numOk; exact decide_eq_false (by omega)))]
    have e2 : (outDict_I wd k (xs.drop P) false).b = false := by
      have e3 : tk 4 (xs.drop P) = [] := by unfold tk; rw [dl, if_neg h4]
      have e4 : tkS 4 (xs.drop P) false = true := by unfold tkS; rw [dl, if_neg h4]
      unfold outDict_I
      rw [e3, e4]
      split
      · rfl
      · have hno := rd_no_I (L.wordOf 8 []) (tkL 4 (xs.drop P))
        generalize rdI (L.wordOf 8 []) (tkL 4 (xs.drop P)) true = q at *
        obtain ⟨vals, ok, xl, s1⟩ := q
        simp only at hno ⊢
        subst hno
        rfl
    rw [e1]
    refine ⟨?_, fun h => by cases h⟩
    unfold good_I; rw [e2]; rfl
  have e3 : tk 4 (xs.drop P) = (xs.drop P).take 4 := by unfold tk; rw [dl, if_pos h4]
  have e4 : tkS 4 (xs.drop P) false = false := by unfold tkS; rw [dl, if_pos h4]
  have e5 : tkL 4 (xs.drop P) = xs.drop (P + 4) := by unfold tkL; rw [dl, if_pos h4, List.drop_drop]
  have hno : numOk 4 P xs.length = true := by unfold numOk; exact decide_eq_true ⟨hP, h4⟩
  have hdn : dN P xs = L.wordOf 8 ((xs.drop P).take 4) := by unfold dN; rw [if_pos hno]
  unfold outDict_I dictR
  rw [e3, e4, e5, hno, hdn]
  generalize L.wordOf 8 ((xs.drop P).take 4) = d
  have hgg : (256 < d ∨ (wd : Int) ≠ (needN d : Int)) ↔ (256 < d ∨ wd ≠ needN d) := by omega
  by_cases hg : 256 < d ∨ wd ≠ needN d
  · rw [if_pos (hgg.2 hg), if_pos (.inr hg)]
    exact ⟨rfl, fun h => by cases h⟩
  rw [if_neg (fun h => hg (hgg.1 h)), if_neg (fun h => h.elim (fun h => by cases h) hg)]
  obtain ⟨h1, h2⟩ := rdK_I d (P + 4) xs (by omega)
  generalize rdI d (xs.drop (P + 4)) false = q at *
  obtain ⟨vals, ok, xl, s1⟩ := q
  simp only at h1 h2 ⊢
  subst h1
  cases ho : listOk kN_I d (P + 4) xs
  · simp only [Bool.false_and, Bool.false_eq_true, if_false, true_or, if_true]
    exact ⟨by simp [good_I], fun h => by cases h⟩
  obtain ⟨h3, h5, h6, h7⟩ := h2 ho
  have hll := listP_len kN_I d (P + 4) xs ho kN_or_I
  rw [← h3, List.length_map] at hll
  rw [← h3, noP_ge_I, h5, h6]
  cases hnp : noPair geI vals
  · simp only [Bool.and_false, Bool.false_eq_true, if_false, or_true, if_true]
    exact ⟨by simp [good_I], fun h => by cases h⟩
  generalize listNx kN_I d (P + 4) xs = nx at *
  simp only [Bool.and_self, if_true, Bool.true_eq_false, or_self, if_false]
  obtain ⟨m1, m2⟩ := restW_mod (xs.drop nx)
  have hlk : lanesOk wd k nx xs = (decide ((xs.drop nx).length % 8 = 0) && okPack wd k (restW (xs.drop nx))) := by
    unfold lanesOk
    rw [dl]
    congr 1
    by_cases h : (xs.length - nx) % 8 = 0
    · rw [decide_eq_true h, decide_eq_true ⟨h7, h⟩]
    · rw [decide_eq_false h, decide_eq_false (fun h2 => h h2.2)]
  have hlb := lanesB_iff wd k 6 (restW (xs.drop nx)) d (by decide) hk
  have hst : ∀ j, standsB 6 (L.laneOf wd (restW (xs.drop nx)) j) d = decide (d ≤ L.laneOf wd (restW (xs.drop nx)) j) := fun j => rfl
  unfold good_I
  simp only [m1, m2]
  cases hkk : lanesOk wd k nx xs
  · have hv : lanesV wd k nx xs = [] := by unfold lanesV; rw [hkk]; simp
    rw [hv]
    refine ⟨?_, fun h => ?_⟩
    · have hf : ¬ (lanesB wd k 6 (restW (xs.drop nx)) d = true ∧ (xs.drop nx).length % 8 = 0) := by
        rintro ⟨a, b⟩
        rw [hlk, decide_eq_true b, (hlb.1 a).1] at hkk
        cases hkk
      simp only [List.all_nil, Bool.true_eq_false, if_false, Bool.false_and, Bool.not_false, Bool.true_and]
      rw [Bool.and_eq_false_iff]
      by_cases ha : lanesB wd k 6 (restW (xs.drop nx)) d = true
      · exact .inr (decide_eq_false (fun hb => hf ⟨ha, hb⟩))
      · exact .inl (by simpa using ha)
    · simp at h
  · have hv : lanesV wd k nx xs = L.lanesL wd k (restW (xs.drop nx)) := by unfold lanesV; rw [hkk, if_pos rfl]
    rw [hlk, Bool.and_eq_true, decide_eq_true_eq] at hkk
    rw [hv]
    have hall : ((L.lanesL wd k (restW (xs.drop nx))).all fun c => decide (c < d)) = lanesB wd k 6 (restW (xs.drop nx)) d := by
      rw [Bool.eq_iff_iff, hlb, List.all_eq_true]
      constructor
      · intro h
        refine ⟨hkk.2, fun j hj => ?_⟩
        rw [hst, decide_eq_false_iff_not]
        have := h (L.laneOf wd (restW (xs.drop nx)) j) (List.mem_map.2 ⟨j, List.mem_range.2 hj, rfl⟩)
        rw [decide_eq_true_eq] at this
        omega
      · rintro ⟨_, h⟩ x hx
        obtain ⟨j, hj, rfl⟩ := List.mem_map.1 hx
        have := h j (List.mem_range.1 hj)
        rw [hst, decide_eq_false_iff_not] at this
        rw [decide_eq_true_eq]
        omega
    rw [hall]
    cases hb : lanesB wd k 6 (restW (xs.drop nx)) d
    · simp only [if_true]
      exact ⟨rfl, fun h => by cases h⟩
    · simp only [Bool.true_eq_false, if_false]
      refine ⟨?_, fun _ j hj => ?_⟩
      · have h8 := hkk.1
        rw [dl] at h8
        simp [h8, L.lanesL_length]
      · have hlt : L.laneOf wd (restW (xs.drop nx)) j < vals.length := by
          have := (hlb.1 hb).2 j hj
          rw [hst, decide_eq_false_iff_not] at this
          omega
        rw [map_getD (fun c => (vals.map pK_I).getD c dfP) (L.lanesL wd k (restW (xs.drop nx))) j 0 dfP (by rw [L.lanesL_length]; exact hj), L.lanesL_get _ _ _ _ hj, map_getD pK_I vals _ dfI dfP hlt]
theorem runs_meet_I (wd k P : Nat) (xs : List Nat) (hP : P ≤ xs.length) (hk : k ≤ 65536) :
    good_I (outRuns_I wd k (xs.drop P) false) = ((runsR kN_I k P xs).1 && decide (wd = 0) && decide ((runsR kN_I k P xs).2.length = k)) ∧
    ((runsR kN_I k P xs).1 = true → decide (wd = 0) = true → ∀ j, j < k → (runsR kN_I k P xs).2.getD j dfP = pK_I ((outRuns_I wd k (xs.drop P) false).list.getD (firstGe (nI (outRuns_I wd k (xs.drop P) false).ends) ((j : Int) + 1)) dfI)) := by
  have hno0 : ∀ (c : Nat) (X : List Nat) (E : List Nat) (b : Bool) (r : Out_I), (if (wd : Int) ≠ 0 ∨ b = false then ({ b := false, left := r.left, short := r.short, list := [], ends := E, lanes := [] } : Out_I) else match rdI c X true with
      | (vals, ok, xl, s3) => { b := ok && noPair eqI vals, left := xl, short := s3, list := vals, ends := E, lanes := [] }).b = false := by
    intro c X E b r
    split
    · rfl
    · have hno := rd_no_I c X
      generalize rdI c X true = q at *
      obtain ⟨vals, ok, xl, s1⟩ := q
      simp only at hno ⊢
      subst hno
      rfl
  by_cases h4 : 4 ≤ xs.length - P
  rotate_left
  · have e1 : runsR kN_I k P xs = (false, []) := by
      unfold runsR; rw [if_pos (.inl (by unfold numOk; exact decide_eq_false (by omega)))]
    have e2 : (outRuns_I wd k (xs.drop P) false).b = false := by
      have e4 : tkS 4 (xs.drop P) false = true := by unfold tkS; rw [dl, if_neg h4]
      unfold outRuns_I
      rw [e4, tkS_true]
      exact hno0 _ _ _ _ ⟨false, _, _, [], [], []⟩
    rw [e1]
    refine ⟨?_, fun h => by cases h⟩
    unfold good_I; rw [e2]; rfl
  have e3 : tk 4 (xs.drop P) = (xs.drop P).take 4 := by unfold tk; rw [dl, if_pos h4]
  have e4 : tkS 4 (xs.drop P) false = false := by unfold tkS; rw [dl, if_pos h4]
  have e5 : tkL 4 (xs.drop P) = xs.drop (P + 4) := by unfold tkL; rw [dl, if_pos h4, List.drop_drop]
  have hno : numOk 4 P xs.length = true := by unfold numOk; exact decide_eq_true ⟨hP, h4⟩
  have hdn : dN P xs = L.wordOf 8 ((xs.drop P).take 4) := by unfold dN; rw [if_pos hno]
  unfold outRuns_I runsR
  rw [e3, e4, e5, hno, hdn]
  generalize L.wordOf 8 ((xs.drop P).take 4) = c
  by_cases hn : 4 * c ≤ xs.length - (P + 4)
  rotate_left
  · have t2 : tkS (4 * c) (xs.drop (P + 4)) false = true := by unfold tkS; rw [dl, if_neg hn]
    have hns : numsOk 4 c (P + 4) xs.length = false := by unfold numsOk; exact decide_eq_false (by omega)
    rw [t2, hns]
    have hr : (if true = false ∨ k < c then ((false, []) : Bool × List PV) else if false = false then (false, [])
        else if listOk kN_I c (P + 4 + 4 * c) xs = false ∨ ¬ listNx kN_I c (P + 4 + 4 * c) xs = xs.length then (false, [])
        else if noPair eqP (listP kN_I c (P + 4 + 4 * c) xs) = false ∨ runEnds (nI (numL 4 (tk (4 * c) (xs.drop (P + 4))))) k = false then (false, [])
        else (true, fillP (listP kN_I c (P + 4 + 4 * c) xs) (numL 4 (tk (4 * c) (xs.drop (P + 4)))) c)) = (false, []) := by
      split
      · rfl
      · rfl
    rw [hr]
    refine ⟨?_, fun h => by cases h⟩
    unfold good_I
    rw [hno0 c _ _ _ ⟨false, _, _, [], [], []⟩]
    rfl
  have t2 : tkS (4 * c) (xs.drop (P + 4)) false = false := by unfold tkS; rw [dl, if_pos hn]
  have t3 : tkL (4 * c) (xs.drop (P + 4)) = xs.drop (P + 4 + 4 * c) := by unfold tkL; rw [dl, if_pos hn, List.drop_drop]
  have hns : numsOk 4 c (P + 4) xs.length = true := by unfold numsOk; exact decide_eq_true ⟨by omega, hn⟩
  have hel := ends_len c (P + 4) xs hns
  rw [t2, t3, hns]
  generalize numL 4 (tk (4 * c) (xs.drop (P + 4))) = E at *
  obtain ⟨re, hre⟩ : ∃ re, runEnds (nI E) k = re := ⟨_, rfl⟩
  rw [hre]
  by_cases hkc : k < c
  · have hf : re = false := by
      rw [← hre, ← Bool.not_eq_true]
      intro h
      have h1 : endsUp 0 (nI E) = some (k : Int) := by simpa [runEnds] using h
      have := endsUp_len _ _ _ h1
      rw [nI_length] at this
      omega
    subst hf
    rw [if_pos (.inr rfl), if_pos (.inr hkc)]
    exact ⟨rfl, fun h => by cases h⟩
  rw [if_neg (c := true = false ∨ k < c) (fun h => h.elim (fun h => by cases h) hkc)]
  simp only [Bool.true_eq_false, if_false]
  cases re
  · rw [if_pos (.inr rfl)]
    have hr : ∀ (p : Prop) [Decidable p] (q : Prop) [Decidable q] (hq : q) (x : List PV), (if p then ((false, []) : Bool × List PV) else if q then (false, []) else (true, x)) = (false, []) := by
      intro p _ q _ hq x
      split
      · rfl
      · rfl
    rw [hr _ _ (.inr rfl)]
    exact ⟨rfl, fun h => by cases h⟩
  by_cases hw : wd = 0
  rotate_left
  · rw [if_pos (.inl (by omega))]
    rw [decide_eq_false hw, Bool.and_false, Bool.false_and]
    exact ⟨rfl, fun _ h => by cases h⟩
  rw [if_neg (by simp; omega), decide_eq_true hw, Bool.and_true]
  have hke : endsUp 0 (nI E) = some (k : Int) := by simpa [runEnds] using hre
  obtain ⟨h1, h2⟩ := rdK_I c (P + 4 + 4 * c) xs (by omega)
  have hll := fun ho => listP_len kN_I c (P + 4 + 4 * c) xs ho kN_or_I
  generalize rdI c (xs.drop (P + 4 + 4 * c)) false = q at *
  obtain ⟨vals, ok, xl, s1⟩ := q
  simp only at h1 h2 ⊢
  subst h1
  cases ho : listOk kN_I c (P + 4 + 4 * c) xs
  · simp only [Bool.false_and, true_or, if_true]
    exact ⟨rfl, fun h => by cases h⟩
  obtain ⟨h3, h5, h6, h7⟩ := h2 ho
  have hvl := hll ho
  rw [← h3, List.length_map] at hvl
  rw [← h3, noP_eq_I, h5, h6]
  by_cases hx : listNx kN_I c (P + 4 + 4 * c) xs = xs.length
  rotate_left
  · rw [if_pos (.inr hx)]
    refine ⟨?_, fun h => by cases h⟩
    unfold good_I
    simp only
    rw [drop_nil _ _ h7, decide_eq_false hx]
    simp
  rw [if_neg (c := true = false ∨ ¬ listNx kN_I c (P + 4 + 4 * c) xs = xs.length) (fun h => h.elim (fun h => by cases h) (fun h => h hx))]
  cases hnp : noPair eqI vals
  · simp only [true_or, if_true]
    exact ⟨rfl, fun h => by cases h⟩
  simp only [Bool.true_eq_false, or_self, if_false]
  have htk : E.take c = E := by rw [← hel, List.take_length]
  have hfl := fillP_len (vals.map pK_I) E c k (by omega) (by rw [htk]; exact hke)
  refine ⟨?_, fun _ _ j hj => ?_⟩
  · unfold good_I
    simp only
    rw [drop_nil _ _ h7, decide_eq_true hx, hfl]
    simp
  · rw [fillP_get (vals.map pK_I) E c k (by omega) (by rw [htk]; exact hke) j hj, map_getD pK_I vals _ dfI dfP]
    have := firstGe_lt hre ((j : Int) + 1) (by omega) (by omega)
    rw [nI_length] at this
    omega
end Go.Proofs.YthonbfojpbfmgaaGreatDoor

/- The code's answer and the plain answer meet: plain lists, dictionaries, runs. -/
set_option linter.unusedVariables false
set_option linter.unusedSimpArgs false
set_option linter.unnecessarySimpa false
set_option maxRecDepth 20000
namespace Go.Proofs.YthonbfojpbfmgaaGreatDoor
open Go.RowKit

def good_S (O : Out_S) : Bool := O.b && (!O.short && decide (O.left = []))
theorem plain_meet_S (wd k P : Nat) (xs : List Nat) (hP : P ≤ xs.length) :
    good_S (outPlain_S wd k (xs.drop P) false) = (listOk kN_S k P xs && decide (listNx kN_S k P xs = xs.length) && decide (wd = 0)) ∧
    (listOk kN_S k P xs = true → (outPlain_S wd k (xs.drop P) false).list.map pK_S = listP kN_S k P xs) := by
  obtain ⟨h1, h2⟩ := rdK_S k P xs hP
  unfold good_S outPlain_S
  generalize rdS k (xs.drop P) false = q at *
  obtain ⟨vals, ok, xl, s1⟩ := q
  simp only at h1 h2 ⊢
  subst h1
  refine ⟨?_, fun h => (h2 h).1⟩
  cases ho : listOk kN_S k P xs
  · simp
  · obtain ⟨h3, h4, h5, h6⟩ := h2 ho
    rw [h5, h4, drop_nil _ _ h6]
    have hw : decide ((wd : Int) = 0) = decide (wd = 0) := by by_cases h : wd = 0 <;> simp [h]
    rw [hw]
    generalize decide (wd = 0) = a
    generalize decide (listNx kN_S k P xs = xs.length) = b
    cases a <;> cases b <;> rfl
theorem dict_meet_S (wd k P : Nat) (xs : List Nat) (hP : P ≤ xs.length) (hk : k ≤ 65536) :
    good_S (outDict_S wd k (xs.drop P) false) = ((dictR kN_S wd k P xs).1 && decide ((dictR kN_S wd k P xs).2.length = k)) ∧
    ((dictR kN_S wd k P xs).1 = true → ∀ j, j < k → (dictR kN_S wd k P xs).2.getD j dfP = pK_S ((outDict_S wd k (xs.drop P) false).list.getD (L.laneOf wd (outDict_S wd k (xs.drop P) false).lanes j) dfS)) := by
  by_cases h4 : 4 ≤ xs.length - P
  rotate_left
  · have e1 : dictR kN_S wd k P xs = (false, []) := by
      unfold dictR; rw [if_pos (.inl (by unfold numOk; exact decide_eq_false (by omega)))]
    have e2 : (outDict_S wd k (xs.drop P) false).b = false := by
      have e3 : tk 4 (xs.drop P) = [] := by unfold tk; rw [dl, if_neg h4]
      have e4 : tkS 4 (xs.drop P) false = true := by unfold tkS; rw [dl, if_neg h4]
      unfold outDict_S
      rw [e3, e4]
      split
      · rfl
      · have hno := rd_no_S (L.wordOf 8 []) (tkL 4 (xs.drop P))
        generalize rdS (L.wordOf 8 []) (tkL 4 (xs.drop P)) true = q at *
        obtain ⟨vals, ok, xl, s1⟩ := q
        simp only at hno ⊢
        subst hno
        rfl
    rw [e1]
    refine ⟨?_, fun h => by cases h⟩
    unfold good_S; rw [e2]; rfl
  have e3 : tk 4 (xs.drop P) = (xs.drop P).take 4 := by unfold tk; rw [dl, if_pos h4]
  have e4 : tkS 4 (xs.drop P) false = false := by unfold tkS; rw [dl, if_pos h4]
  have e5 : tkL 4 (xs.drop P) = xs.drop (P + 4) := by unfold tkL; rw [dl, if_pos h4, List.drop_drop]
  have hno : numOk 4 P xs.length = true := by unfold numOk; exact decide_eq_true ⟨hP, h4⟩
  have hdn : dN P xs = L.wordOf 8 ((xs.drop P).take 4) := by unfold dN; rw [if_pos hno]
  unfold outDict_S dictR
  rw [e3, e4, e5, hno, hdn]
  generalize L.wordOf 8 ((xs.drop P).take 4) = d
  have hgg : (256 < d ∨ (wd : Int) ≠ (needN d : Int)) ↔ (256 < d ∨ wd ≠ needN d) := by omega
  by_cases hg : 256 < d ∨ wd ≠ needN d
  · rw [if_pos (hgg.2 hg), if_pos (.inr hg)]
    exact ⟨rfl, fun h => by cases h⟩
  rw [if_neg (fun h => hg (hgg.1 h)), if_neg (fun h => h.elim (fun h => by cases h) hg)]
  obtain ⟨h1, h2⟩ := rdK_S d (P + 4) xs (by omega)
  generalize rdS d (xs.drop (P + 4)) false = q at *
  obtain ⟨vals, ok, xl, s1⟩ := q
  simp only at h1 h2 ⊢
  subst h1
  cases ho : listOk kN_S d (P + 4) xs
  · simp only [Bool.false_and, Bool.false_eq_true, if_false, true_or, if_true]
    exact ⟨by simp [good_S], fun h => by cases h⟩
  obtain ⟨h3, h5, h6, h7⟩ := h2 ho
  have hll := listP_len kN_S d (P + 4) xs ho kN_or_S
  rw [← h3, List.length_map] at hll
  rw [← h3, noP_ge_S, h5, h6]
  cases hnp : noPair geS vals
  · simp only [Bool.and_false, Bool.false_eq_true, if_false, or_true, if_true]
    exact ⟨by simp [good_S], fun h => by cases h⟩
  generalize listNx kN_S d (P + 4) xs = nx at *
  simp only [Bool.and_self, if_true, Bool.true_eq_false, or_self, if_false]
  obtain ⟨m1, m2⟩ := restW_mod (xs.drop nx)
  have hlk : lanesOk wd k nx xs = (decide ((xs.drop nx).length % 8 = 0) && okPack wd k (restW (xs.drop nx))) := by
    unfold lanesOk
    rw [dl]
    congr 1
    by_cases h : (xs.length - nx) % 8 = 0
    · rw [decide_eq_true h, decide_eq_true ⟨h7, h⟩]
    · rw [decide_eq_false h, decide_eq_false (fun h2 => h h2.2)]
  have hlb := lanesB_iff wd k 6 (restW (xs.drop nx)) d (by decide) hk
  have hst : ∀ j, standsB 6 (L.laneOf wd (restW (xs.drop nx)) j) d = decide (d ≤ L.laneOf wd (restW (xs.drop nx)) j) := fun j => rfl
  unfold good_S
  simp only [m1, m2]
  cases hkk : lanesOk wd k nx xs
  · have hv : lanesV wd k nx xs = [] := by unfold lanesV; rw [hkk]; simp
    rw [hv]
    refine ⟨?_, fun h => ?_⟩
    · have hf : ¬ (lanesB wd k 6 (restW (xs.drop nx)) d = true ∧ (xs.drop nx).length % 8 = 0) := by
        rintro ⟨a, b⟩
        rw [hlk, decide_eq_true b, (hlb.1 a).1] at hkk
        cases hkk
      simp only [List.all_nil, Bool.true_eq_false, if_false, Bool.false_and, Bool.not_false, Bool.true_and]
      rw [Bool.and_eq_false_iff]
      by_cases ha : lanesB wd k 6 (restW (xs.drop nx)) d = true
      · exact .inr (decide_eq_false (fun hb => hf ⟨ha, hb⟩))
      · exact .inl (by simpa using ha)
    · simp at h
  · have hv : lanesV wd k nx xs = L.lanesL wd k (restW (xs.drop nx)) := by unfold lanesV; rw [hkk, if_pos rfl]
    rw [hlk, Bool.and_eq_true, decide_eq_true_eq] at hkk
    rw [hv]
    have hall : ((L.lanesL wd k (restW (xs.drop nx))).all fun c => decide (c < d)) = lanesB wd k 6 (restW (xs.drop nx)) d := by
      rw [Bool.eq_iff_iff, hlb, List.all_eq_true]
      constructor
      · intro h
        refine ⟨hkk.2, fun j hj => ?_⟩
        rw [hst, decide_eq_false_iff_not]
        have := h (L.laneOf wd (restW (xs.drop nx)) j) (List.mem_map.2 ⟨j, List.mem_range.2 hj, rfl⟩)
        rw [decide_eq_true_eq] at this
        omega
      · rintro ⟨_, h⟩ x hx
        obtain ⟨j, hj, rfl⟩ := List.mem_map.1 hx
        have := h j (List.mem_range.1 hj)
        rw [hst, decide_eq_false_iff_not] at this
        rw [decide_eq_true_eq]
        omega
    rw [hall]
    cases hb : lanesB wd k 6 (restW (xs.drop nx)) d
    · simp only [if_true]
      exact ⟨rfl, fun h => by cases h⟩
    · simp only [Bool.true_eq_false, if_false]
      refine ⟨?_, fun _ j hj => ?_⟩
      · have h8 := hkk.1
        rw [dl] at h8
        simp [h8, L.lanesL_length]
      · have hlt : L.laneOf wd (restW (xs.drop nx)) j < vals.length := by
          have := (hlb.1 hb).2 j hj
          rw [hst, decide_eq_false_iff_not] at this
          omega
        rw [map_getD (fun c => (vals.map pK_S).getD c dfP) (L.lanesL wd k (restW (xs.drop nx))) j 0 dfP (by rw [L.lanesL_length]; exact hj), L.lanesL_get _ _ _ _ hj, map_getD pK_S vals _ dfS dfP hlt]
theorem runs_meet_S (wd k P : Nat) (xs : List Nat) (hP : P ≤ xs.length) (hk : k ≤ 65536) :
    good_S (outRuns_S wd k (xs.drop P) false) = ((runsR kN_S k P xs).1 && decide (wd = 0) && decide ((runsR kN_S k P xs).2.length = k)) ∧
    ((runsR kN_S k P xs).1 = true → decide (wd = 0) = true → ∀ j, j < k → (runsR kN_S k P xs).2.getD j dfP = pK_S ((outRuns_S wd k (xs.drop P) false).list.getD (firstGe (nI (outRuns_S wd k (xs.drop P) false).ends) ((j : Int) + 1)) dfS)) := by
  have hno0 : ∀ (c : Nat) (X : List Nat) (E : List Nat) (b : Bool) (r : Out_S), (if (wd : Int) ≠ 0 ∨ b = false then ({ b := false, left := r.left, short := r.short, list := [], ends := E, lanes := [] } : Out_S) else match rdS c X true with
      | (vals, ok, xl, s3) => { b := ok && noPair eqS vals, left := xl, short := s3, list := vals, ends := E, lanes := [] }).b = false := by
    intro c X E b r
    split
    · rfl
    · have hno := rd_no_S c X
      generalize rdS c X true = q at *
      obtain ⟨vals, ok, xl, s1⟩ := q
      simp only at hno ⊢
      subst hno
      rfl
  by_cases h4 : 4 ≤ xs.length - P
  rotate_left
  · have e1 : runsR kN_S k P xs = (false, []) := by
      unfold runsR; rw [if_pos (.inl (by unfold numOk; exact decide_eq_false (by omega)))]
    have e2 : (outRuns_S wd k (xs.drop P) false).b = false := by
      have e4 : tkS 4 (xs.drop P) false = true := by unfold tkS; rw [dl, if_neg h4]
      unfold outRuns_S
      rw [e4, tkS_true]
      exact hno0 _ _ _ _ ⟨false, _, _, [], [], []⟩
    rw [e1]
    refine ⟨?_, fun h => by cases h⟩
    unfold good_S; rw [e2]; rfl
  have e3 : tk 4 (xs.drop P) = (xs.drop P).take 4 := by unfold tk; rw [dl, if_pos h4]
  have e4 : tkS 4 (xs.drop P) false = false := by unfold tkS; rw [dl, if_pos h4]
  have e5 : tkL 4 (xs.drop P) = xs.drop (P + 4) := by unfold tkL; rw [dl, if_pos h4, List.drop_drop]
  have hno : numOk 4 P xs.length = true := by unfold numOk; exact decide_eq_true ⟨hP, h4⟩
  have hdn : dN P xs = L.wordOf 8 ((xs.drop P).take 4) := by unfold dN; rw [if_pos hno]
  unfold outRuns_S runsR
  rw [e3, e4, e5, hno, hdn]
  generalize L.wordOf 8 ((xs.drop P).take 4) = c
  by_cases hn : 4 * c ≤ xs.length - (P + 4)
  rotate_left
  · have t2 : tkS (4 * c) (xs.drop (P + 4)) false = true := by unfold tkS; rw [dl, if_neg hn]
    have hns : numsOk 4 c (P + 4) xs.length = false := by unfold numsOk; exact decide_eq_false (by omega)
    rw [t2, hns]
    have hr : (if true = false ∨ k < c then ((false, []) : Bool × List PV) else if false = false then (false, [])
        else if listOk kN_S c (P + 4 + 4 * c) xs = false ∨ ¬ listNx kN_S c (P + 4 + 4 * c) xs = xs.length then (false, [])
        else if noPair eqP (listP kN_S c (P + 4 + 4 * c) xs) = false ∨ runEnds (nI (numL 4 (tk (4 * c) (xs.drop (P + 4))))) k = false then (false, [])
        else (true, fillP (listP kN_S c (P + 4 + 4 * c) xs) (numL 4 (tk (4 * c) (xs.drop (P + 4)))) c)) = (false, []) := by
      split
      · rfl
      · rfl
    rw [hr]
    refine ⟨?_, fun h => by cases h⟩
    unfold good_S
    rw [hno0 c _ _ _ ⟨false, _, _, [], [], []⟩]
    rfl
  have t2 : tkS (4 * c) (xs.drop (P + 4)) false = false := by unfold tkS; rw [dl, if_pos hn]
  have t3 : tkL (4 * c) (xs.drop (P + 4)) = xs.drop (P + 4 + 4 * c) := by unfold tkL; rw [dl, if_pos hn, List.drop_drop]
  have hns : numsOk 4 c (P + 4) xs.length = true := by unfold numsOk; exact decide_eq_true ⟨by omega, hn⟩
  have hel := ends_len c (P + 4) xs hns
  rw [t2, t3, hns]
  generalize numL 4 (tk (4 * c) (xs.drop (P + 4))) = E at *
  obtain ⟨re, hre⟩ : ∃ re, runEnds (nI E) k = re := ⟨_, rfl⟩
  rw [hre]
  by_cases hkc : k < c
  · have hf : re = false := by
      rw [← hre, ← Bool.not_eq_true]
      intro h
      have h1 : endsUp 0 (nI E) = some (k : Int) := by simpa [runEnds] using h
      have := endsUp_len _ _ _ h1
      rw [nI_length] at this
      omega
    subst hf
    rw [if_pos (.inr rfl), if_pos (.inr hkc)]
    exact ⟨rfl, fun h => by cases h⟩
  rw [if_neg (c := true = false ∨ k < c) (fun h => h.elim (fun h => by cases h) hkc)]
  simp only [Bool.true_eq_false, if_false]
  cases re
  · rw [if_pos (.inr rfl)]
    have hr : ∀ (p : Prop) [Decidable p] (q : Prop) [Decidable q] (hq : q) (x : List PV), (if p then ((false, []) : Bool × List PV) else if q then (false, []) else (true, x)) = (false, []) := by
      intro p _ q _ hq x
      split
      · rfl
      · rfl
    rw [hr _ _ (.inr rfl)]
    exact ⟨rfl, fun h => by cases h⟩
  by_cases hw : wd = 0
  rotate_left
  · rw [if_pos (.inl (by omega))]
    rw [decide_eq_false hw, Bool.and_false, Bool.false_and]
    exact ⟨rfl, fun _ h => by cases h⟩
  rw [if_neg (by simp; omega), decide_eq_true hw, Bool.and_true]
  have hke : endsUp 0 (nI E) = some (k : Int) := by simpa [runEnds] using hre
  obtain ⟨h1, h2⟩ := rdK_S c (P + 4 + 4 * c) xs (by omega)
  have hll := fun ho => listP_len kN_S c (P + 4 + 4 * c) xs ho kN_or_S
  generalize rdS c (xs.drop (P + 4 + 4 * c)) false = q at *
  obtain ⟨vals, ok, xl, s1⟩ := q
  simp only at h1 h2 ⊢
  subst h1
  cases ho : listOk kN_S c (P + 4 + 4 * c) xs
  · simp only [Bool.false_and, true_or, if_true]
    exact ⟨rfl, fun h => by cases h⟩
  obtain ⟨h3, h5, h6, h7⟩ := h2 ho
  have hvl := hll ho
  rw [← h3, List.length_map] at hvl
  rw [← h3, noP_eq_S, h5, h6]
  by_cases hx : listNx kN_S c (P + 4 + 4 * c) xs = xs.length
  rotate_left
  · rw [if_pos (.inr hx)]
    refine ⟨?_, fun h => by cases h⟩
    unfold good_S
    simp only
    rw [drop_nil _ _ h7, decide_eq_false hx]
    simp
  rw [if_neg (c := true = false ∨ ¬ listNx kN_S c (P + 4 + 4 * c) xs = xs.length) (fun h => h.elim (fun h => by cases h) (fun h => h hx))]
  cases hnp : noPair eqS vals
  · simp only [true_or, if_true]
    exact ⟨rfl, fun h => by cases h⟩
  simp only [Bool.true_eq_false, or_self, if_false]
  have htk : E.take c = E := by rw [← hel, List.take_length]
  have hfl := fillP_len (vals.map pK_S) E c k (by omega) (by rw [htk]; exact hke)
  refine ⟨?_, fun _ _ j hj => ?_⟩
  · unfold good_S
    simp only
    rw [drop_nil _ _ h7, decide_eq_true hx, hfl]
    simp
  · rw [fillP_get (vals.map pK_S) E c k (by omega) (by rw [htk]; exact hke) j hj, map_getD pK_S vals _ dfS dfP]
    have := firstGe_lt hre ((j : Int) + 1) (by omega) (by omega)
    rw [nI_length] at this
    omega
end Go.Proofs.YthonbfojpbfmgaaGreatDoor

/- The code's answer and the plain answer meet: frames, the head of a body, readers that are short. -/
set_option linter.unusedVariables false
set_option linter.unusedSimpArgs false
set_option linter.unnecessarySimpa false
set_option maxRecDepth 20000
namespace Go.Proofs.YthonbfojpbfmgaaGreatDoor
open Go.RowKit

theorem val_vsum (base : Int) (x : Nat) : val45 base x = vsum base x := by
  unfold val45 vsum wrap64
  rw [IntKind.wrap_i64, IntKind.wrap_i64, IntKind.wrap_u64, IntKind.wrap_u64]
  omega
theorem lanesOk_eq (wd k p : Nat) (xs : List Nat) (hp : p ≤ xs.length) : lanesOk wd k p xs = (decide ((xs.drop p).length % 8 = 0) && okPack wd k (restW (xs.drop p))) := by
  unfold lanesOk
  rw [dl]
  congr 1
  by_cases h : (xs.length - p) % 8 = 0
  · rw [decide_eq_true h, decide_eq_true ⟨hp, h⟩]
  · rw [decide_eq_false h, decide_eq_false (fun h2 => h h2.2)]
theorem off_meet (wd k p : Nat) (base : Int) (xs : List Nat) (hp : p ≤ xs.length) (hk : k ≤ 65536) :
    good_I (outOff wd base k (xs.drop p) false) = ((fits base (lanesV wd k p xs) && lanesOk wd k p xs) && decide (((sumsL base (lanesV wd k p xs)).map pI).length = k)) ∧
    ((fits base (lanesV wd k p xs) && lanesOk wd k p xs) = true → ∀ j, j < k → ((sumsL base (lanesV wd k p xs)).map pI).getD j dfP = pK_I (val45 base (L.laneOf wd (restW (xs.drop p)) j))) := by
  obtain ⟨m1, m2⟩ := restW_mod (xs.drop p)
  have hlk := lanesOk_eq wd k p xs hp
  have hlb := lanesB_iff wd k 5 (restW (xs.drop p)) (roomN base) (by decide) hk
  have hst : ∀ j, standsB 5 (L.laneOf wd (restW (xs.drop p)) j) (roomN base) = decide (roomN base < L.laneOf wd (restW (xs.drop p)) j) := fun j => rfl
  unfold good_I outOff
  simp only [m1, m2]
  cases hkk : lanesOk wd k p xs
  · rw [Bool.and_false, Bool.false_and]
    refine ⟨?_, fun h => by cases h⟩
    have hf : ¬ (lanesB wd k 5 (restW (xs.drop p)) (roomN base) = true ∧ (xs.drop p).length % 8 = 0) := by
      rintro ⟨a, b⟩
      rw [hlk, decide_eq_true b, (hlb.1 a).1] at hkk
      cases hkk
    simp only [Bool.not_false, Bool.true_and]
    rw [Bool.and_eq_false_iff]
    by_cases ha : lanesB wd k 5 (restW (xs.drop p)) (roomN base) = true
    · exact .inr (decide_eq_false (fun hb => hf ⟨ha, hb⟩))
    · exact .inl (by simpa using ha)
  · have hv : lanesV wd k p xs = L.lanesL wd k (restW (xs.drop p)) := by unfold lanesV; rw [hkk, if_pos rfl]
    rw [hlk, Bool.and_eq_true, decide_eq_true_eq] at hkk
    rw [hv]
    have hall : fits base (L.lanesL wd k (restW (xs.drop p))) = lanesB wd k 5 (restW (xs.drop p)) (roomN base) := by
      unfold fits
      rw [Bool.eq_iff_iff, hlb, List.all_eq_true]
      constructor
      · intro h
        refine ⟨hkk.2, fun j hj => ?_⟩
        rw [hst, decide_eq_false_iff_not]
        have := h (L.laneOf wd (restW (xs.drop p)) j) (List.mem_map.2 ⟨j, List.mem_range.2 hj, rfl⟩)
        rw [decide_eq_true_eq] at this
        omega
      · rintro ⟨_, h⟩ x hx
        obtain ⟨j, hj, rfl⟩ := List.mem_map.1 hx
        have := h j (List.mem_range.1 hj)
        rw [hst, decide_eq_false_iff_not] at this
        rw [decide_eq_true_eq]
        omega
    have hsl : lanesB wd k 5 (restW (xs.drop p)) (roomN base) = true → sumsL base (L.lanesL wd k (restW (xs.drop p))) = (L.lanesL wd k (restW (xs.drop p))).map (vsum base) := fun h => by
      unfold sumsL; rw [hall, h, if_pos rfl]
    rw [hall]
    cases hb : lanesB wd k 5 (restW (xs.drop p)) (roomN base)
    · exact ⟨rfl, fun h => by cases h⟩
    · rw [hsl hb]
      refine ⟨?_, fun _ j hj => ?_⟩
      · rw [List.length_map, List.length_map, L.lanesL_length, decide_eq_true hkk.1, decide_eq_true rfl]; rfl
      · rw [List.map_map, map_getD (pI ∘ vsum base) (L.lanesL wd k (restW (xs.drop p))) j 0 dfP (by rw [L.lanesL_length]; exact hj), L.lanesL_get _ _ _ _ hj, val_vsum]
        rfl
theorem off_short (wd k : Nat) (base : Int) (X : List Nat) : good_I (outOff wd base k X true) = false := by
  unfold good_I outOff
  simp only [tkS_true, Bool.not_true, Bool.false_and, Bool.and_false]
theorem off_wide (wd k : Nat) (base : Int) (X : List Nat) (h : 64 < wd) (s : Bool) : good_I (outOff wd base k X s) = false := by
  have h1 : lanesB wd k 5 (restW X) (roomN base) = false := by
    rw [← Bool.not_eq_true]
    intro h2
    have := (lanesB_true h2).1
    omega
  unfold good_I outOff
  simp only [h1, Bool.false_and]

theorem pay_short_I (cd wd k : Nat) (X : List Nat) : good_I (outPay_I cd wd k X true) = false := by
  unfold outPay_I
  split
  · unfold good_I outPlain_I
    simp only [rd_no_I, Bool.false_and]
  split
  · unfold outDict_I
    rw [tkS_true]
    split
    · rfl
    · have hno := rd_no_I (L.wordOf 8 (tk 4 X)) (tkL 4 X)
      generalize rdI (L.wordOf 8 (tk 4 X)) (tkL 4 X) true = q at *
      obtain ⟨vals, ok, xl, s1⟩ := q
      simp only at hno ⊢
      subst hno
      rfl
  split
  · unfold outRuns_I
    rw [tkS_true, tkS_true]
    split
    · rfl
    · have hno := rd_no_I (L.wordOf 8 (tk 4 X)) (tkL (4 * L.wordOf 8 (tk 4 X)) (tkL 4 X))
      generalize rdI (L.wordOf 8 (tk 4 X)) (tkL (4 * L.wordOf 8 (tk 4 X)) (tkL 4 X)) true = q at *
      obtain ⟨vals, ok, xl, s1⟩ := q
      simp only at hno ⊢
      subst hno
      rfl
  split
  · rw [tkS_true]; exact off_short _ _ _ _
  · exact off_short _ _ _ _
/-- the head of a body that is long enough -/
theorem head_eq (rows : Nat) (xs : List Nat) (h : numsOk 8 (rN rows) 2 xs.length = true) :
    (headOf rows xs).codec = xs.getD 0 0 ∧ (headOf rows xs).wd = xs.getD 1 0 ∧ (headOf rows xs).nulls = rWs rows xs ∧ (headOf rows xs).left = xs.drop (2 + 8 * rN rows) ∧ (headOf rows xs).short = false := by
  unfold numsOk at h
  rw [decide_eq_true_eq] at h
  obtain ⟨a, b, t, rfl⟩ : ∃ a b t, xs = a :: b :: t := by
    match xs, h.1 with
    | a :: b :: t, _ => exact ⟨a, b, t, rfl⟩
  have h2 : 8 * rN rows ≤ t.length := by have := h.2; simpa using this
  have e1 : tk 1 (a :: b :: t) = [a] := by simp [tk]
  have e2 : tkL 1 (a :: b :: t) = b :: t := by simp [tkL]
  have e3 : tk 1 (b :: t) = [b] := by simp [tk]
  have e4 : tkL 1 (b :: t) = t := by simp [tkL]
  have e5 : tkS 1 (a :: b :: t) false = false := by simp [tkS]
  have e6 : tkS 1 (b :: t) false = false := by simp [tkS]
  unfold headOf
  simp only [e1, e2, e3, e4, e5, e6]
  refine ⟨by simp [L.wordOf], by simp [L.wordOf], rfl, ?_, ?_⟩
  · unfold tkL; rw [show (rows + 63) / 64 = rN rows from rfl, if_pos h2]
    rw [show 2 + 8 * rN rows = 8 * rN rows + 1 + 1 by omega, List.drop_succ_cons, List.drop_succ_cons]
  · unfold tkS; rw [show (rows + 63) / 64 = rN rows from rfl, if_pos h2]
theorem head_no (rows : Nat) (xs : List Nat) (h : numsOk 8 (rN rows) 2 xs.length = false) : (headOf rows xs).short = true := by
  unfold numsOk at h
  rw [decide_eq_false_iff_not] at h
  unfold headOf
  simp only
  match xs with
  | [] => simp [tkS, tkL]
  | [a] => simp [tkS, tkL]
  | a :: b :: t =>
    have e2 : tkL 1 (a :: b :: t) = b :: t := by simp [tkL]
    have e4 : tkL 1 (b :: t) = t := by simp [tkL]
    rw [e2, e4]
    have h2 : ¬ 8 * rN rows ≤ t.length := by
      intro h3
      exact h ⟨by simp, by simpa using h3⟩
    unfold tkS
    rw [show (rows + 63) / 64 = rN rows from rfl, if_neg h2]
end Go.Proofs.YthonbfojpbfmgaaGreatDoor

/- Package codec: Gather. -/
set_option linter.unusedVariables false
set_option linter.unusedSimpArgs false
set_option linter.unnecessarySimpa false
set_option maxRecDepth 100000
namespace Go.Proofs.YthonbfojpbfmgaaGreatDoor
open Go.RowKit

end Go.Proofs.YthonbfojpbfmgaaGreatDoor
