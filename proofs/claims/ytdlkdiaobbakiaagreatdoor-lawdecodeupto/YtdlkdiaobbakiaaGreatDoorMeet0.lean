/- The code's answer and the plain answer meet: lists of values, lanes. Plain mathematics. -/
import Derived.Test.YtdlkdiaobbakiaaGreatDoorRefG
import Derived.Test.YtdlkdiaobbakiaaGreatDoorValidI
import Derived.Test.YtdlkdiaobbakiaaGreatDoorValidS
set_option linter.unusedVariables false
set_option linter.unusedSimpArgs false
set_option linter.unnecessarySimpa false
set_option maxRecDepth 20000
namespace Go.Proofs.YtdlkdiaobbakiaaGreatDoor
open Go.RowKit

def pK_I (x : Int) : PV := pI x
def pK_S (x : ByteArray) : PV := pS x
theorem dl (p : Nat) (xs : List Nat) : (xs.drop p).length = xs.length - p := List.length_drop
/-- a list off the reader that is short is none -/
theorem rd_no_I (m : Nat) (X : List Nat) : (rdI m X true).2.1 = false := by
  unfold rdI tkS; simp
theorem tkS_true (n : Nat) (X : List Nat) : tkS n X true = true := by unfold tkS; simp
theorem rd_no_S (m : Nat) (X : List Nat) : (rdS m X true).2.1 = false := by
  unfold rdS
  simp only [tkS_true]
  split
  · rfl
  · simp
theorem rd_eq_I (m p : Nat) (xs : List Nat) (hp : p ≤ xs.length) :
    (rdI m (xs.drop p) false).2.1 = listOk 1 m p xs ∧ (listOk 1 m p xs = true → (rdI m (xs.drop p) false).1.map pK_I = listP 1 m p xs ∧ (rdI m (xs.drop p) false).2.2.1 = xs.drop (listNx 1 m p xs) ∧ (rdI m (xs.drop p) false).2.2.2 = false ∧ listNx 1 m p xs ≤ xs.length) := by
  have e1 : listOk 1 m p xs = decide (8 * m ≤ xs.length - p) := by
    unfold listOk numsOk; rw [if_pos rfl]; simp [hp]
  refine ⟨?_, fun h => ?_⟩
  · rw [e1]
    unfold rdI tkS
    rw [dl]
    by_cases h : 8 * m ≤ xs.length - p <;> simp [h]
  · rw [e1, decide_eq_true_eq] at h
    have e2 : listNx 1 m p xs = p + 8 * m := by
      unfold listNx numsOk; rw [if_pos rfl, if_pos (by simp [hp, h])]
    rw [e2]
    refine ⟨rfl, ?_, ?_, by omega⟩
    · unfold rdI tkL; simp only; rw [dl, if_pos h, List.drop_drop]
    · unfold rdI tkS; simp only; rw [dl, if_pos h]
theorem cutS_take (t : List Nat) (es : List Int) : ∀ (a sz : Int), 0 ≤ a → textEnd a es = some sz → cutS a (t.take sz.toNat) es = cutS a t es := by
  induction es with
  | nil => intro a sz _ _; rfl
  | cons e r ih =>
    intro a sz h0 h
    simp only [textEnd] at h
    split at h
    · cases h
    · rename_i hc
      have hle := textEnd_le r e sz h
      simp only [cutS]
      rw [ih e sz (by omega) h, List.drop_take, List.take_take, Nat.min_eq_left (by omega)]
theorem rd_eq_S (m p : Nat) (xs : List Nat) (hp : p ≤ xs.length) :
    (rdS m (xs.drop p) false).2.1 = listOk 2 m p xs ∧ (listOk 2 m p xs = true → (rdS m (xs.drop p) false).1.map pK_S = listP 2 m p xs ∧ (rdS m (xs.drop p) false).2.2.1 = xs.drop (listNx 2 m p xs) ∧ (rdS m (xs.drop p) false).2.2.2 = false ∧ listNx 2 m p xs ≤ xs.length) := by
  have e0 : listOk 2 m p xs = strsOk m p xs := by unfold listOk; rw [if_neg (by decide)]
  have e3 : listNx 2 m p xs = strsNx m p xs := by unfold listNx; rw [if_neg (by decide)]
  have e4 : listP 2 m p xs = (strsV m p xs).map pS := by unfold listP; rw [if_neg (by decide)]
  rw [e0, e3, e4]
  by_cases hn : 4 * m ≤ xs.length - p
  · have hno : numsOk 4 m p xs.length = true := by unfold numsOk; exact decide_eq_true ⟨hp, hn⟩
    have t1 : tkL (4 * m) (xs.drop p) = xs.drop (p + 4 * m) := by unfold tkL; rw [dl, if_pos hn, List.drop_drop]
    have t2 : tkS (4 * m) (xs.drop p) false = false := by unfold tkS; rw [dl, if_pos hn]
    unfold strsV strsNx
    have e1 : strsOk m p xs = match textEnd 0 (nI (numL 4 (tk (4 * m) (xs.drop p)))) with
        | none => false
        | some sz => decide (sz ≤ ((xs.length - (p + 4 * m) : Nat) : Int)) := by unfold strsOk; rw [hno, Bool.true_and]; rfl
    unfold rdS
    simp only [t1, t2]
    rw [e1]
    generalize nI (numL 4 (tk (4 * m) (xs.drop p))) = ends at *
    cases hte : textEnd 0 ends with
    | none => simp
    | some sz =>
      have hs0 := textEnd_le ends 0 sz hte
      simp only
      have t3 : tkS sz.toNat (xs.drop (p + 4 * m)) false = !decide (sz ≤ ((xs.length - (p + 4 * m) : Nat) : Int)) := by
        unfold tkS; rw [dl]
        by_cases h : sz ≤ ((xs.length - (p + 4 * m) : Nat) : Int)
        · rw [if_pos (by omega), decide_eq_true h]; rfl
        · rw [if_neg (by omega), decide_eq_false h]; rfl
      rw [t3]
      by_cases h : sz ≤ ((xs.length - (p + 4 * m) : Nat) : Int)
      · have hd := decide_eq_true h
        simp only [hd, Bool.not_true, Bool.false_eq_true, if_false, if_true, true_and]
        intro _
        have hz : sz.toNat ≤ xs.length - (p + 4 * m) := by omega
        have t4 : tk sz.toNat (xs.drop (p + 4 * m)) = (xs.drop (p + 4 * m)).take sz.toNat := by unfold tk; rw [dl, if_pos hz]
        have t5 : tkL sz.toNat (xs.drop (p + 4 * m)) = xs.drop (p + 4 * m + sz.toNat) := by unfold tkL; rw [dl, if_pos hz, List.drop_drop]
        rw [t4, t5, cutS_take _ _ 0 sz (by omega) hte]
        refine ⟨rfl, ?_, ?_⟩
        · rw [tsz, hte]; rfl
        · rw [tsz, hte]; simp only [Option.getD_some]; omega
      · have hd := decide_eq_false h
        simp [hd]
  · have hno : numsOk 4 m p xs.length = false := by unfold numsOk; exact decide_eq_false (by omega)
    have e1 : strsOk m p xs = false := by unfold strsOk; rw [hno, Bool.false_and]
    rw [e1]
    have t2 : tkS (4 * m) (xs.drop p) false = true := by unfold tkS; rw [dl, if_neg hn]
    refine ⟨?_, fun h => by cases h⟩
    unfold rdS
    simp only [t2, tkS_true]
    split
    · rfl
    · simp
theorem noPair_map {α β : Type} (r : β → β → Bool) (f : α → β) : ∀ xs : List α, noPair r (xs.map f) = noPair (fun a b => r (f a) (f b)) xs
  | [] => rfl
  | [a] => rfl
  | a :: b :: t => by
    have ih := noPair_map r f (b :: t)
    simp only [List.map_cons, noPair] at ih ⊢
    rw [ih]
theorem ordS_self : ordS ByteArray.empty ByteArray.empty = 0 := by decide +kernel
theorem ge_pK_I (a b : Int) : geP (pK_I a) (pK_I b) = geI a b := by
  unfold geP geI pK_I pI ordP
  simp only [ordS_self]
  by_cases h1 : a < b
  · rw [if_pos h1, decide_eq_false (by omega), decide_eq_false (by omega)]
  · rw [if_neg h1]
    by_cases h2 : b < a
    · rw [if_pos h2, decide_eq_true (by omega), decide_eq_true (by omega)]
    · rw [if_neg h2, decide_eq_true (by omega), decide_eq_true (by omega)]
theorem eq_pK_I (a b : Int) : eqP (pK_I a) (pK_I b) = eqI a b := by
  unfold eqP eqI pK_I pI ordP
  simp only [ordS_self]
  by_cases h1 : a < b
  · rw [if_pos h1, decide_eq_false (by omega)]
    simp; omega
  · rw [if_neg h1]
    by_cases h2 : b < a
    · rw [if_pos h2, decide_eq_false (by omega)]
      simp; omega
    · rw [if_neg h2, decide_eq_true (by omega)]
      simp; omega
theorem ordP_S (a b : ByteArray) : ordP (pK_S a) (pK_S b) = ordS a b := by
  unfold ordP pK_S pS
  simp
theorem ge_pK_S (a b : ByteArray) : geP (pK_S a) (pK_S b) = geS a b := by
  unfold geP geS
  rw [ordP_S]
  unfold ordS
  cases h : ltS a b
  · simp only [Bool.false_eq_true, if_false, Bool.not_false]
    split <;> decide
  · simp
theorem bytesLess_irrefl : ∀ l : List UInt8, Op.bytesLess l l = false := by
  intro l
  induction l with
  | nil => rfl
  | cons a r ih => simp [Op.bytesLess, ih]
theorem eq_pK_S (a b : ByteArray) : eqP (pK_S a) (pK_S b) = eqS a b := by
  unfold eqP
  rw [ordP_S]
  unfold ordS
  cases h : ltS a b
  · cases h2 : eqS a b
    · simp
    · simp
  · cases h2 : eqS a b
    · simp
    · unfold eqS at h2
      have h3 : a.toList = b.toList := by simpa using h2
      unfold ltS at h
      rw [h3, bytesLess_irrefl] at h
      cases h
theorem bmL_rank0' {fl : List Bool} (h : ∀ j, j < fl.length → fl.getD j false = false) : rankN (bmL fl) fl.length = 0 := by
  unfold rankN
  rw [List.filter_eq_nil_iff.2, List.length_nil]
  intro j hj
  have hj2 := List.mem_range.1 hj
  have hb := (bmL_isBm fl).2.2 j (by rw [(bmL_isBm fl).1]; have := nWords1_le fl.length; omega)
  simp only [h j hj2, Bool.and_false] at hb
  simp [hb]
theorem lanesB_iff (wd k : Nat) (op : Int) (ws : List Nat) (lim : Nat) (hop : isRel op = true) (hk : k ≤ 65536) :
    lanesB wd k op ws lim = true ↔ okPack wd k ws = true ∧ ∀ j, j < k → standsB op (L.laneOf wd ws j) lim = false := by
  constructor
  · intro h
    obtain ⟨h1, h2, h3, h4⟩ := lanesB_true h
    exact ⟨(okPack_nat ws h1 h2).2 h3, h4⟩
  · rintro ⟨h1, h2⟩
    have hc : cmpOk wd k op ws = true := by unfold cmpOk; rw [hop, h1]; rfl
    unfold lanesB
    rw [hc, Bool.true_and, cmpR, if_pos hc]
    have hfl : ((List.range (k : Int).toNat).map (cmpF (wd : Int).toNat op ws lim)).length = k := by simp
    have h6 : okPack 1 k (bmL ((List.range (k : Int).toNat).map (cmpF (wd : Int).toNat op ws lim))) = true := by
      refine (okPack_nat _ (by decide) hk).2 ?_
      have := L.pack_isPack (w := 1) (by omega) (((List.range (k : Int).toNat).map (cmpF (wd : Int).toNat op ws lim)).map Bool.toNat) (toNat_lt _)
      rwa [List.length_map, hfl] at this
    rw [rankR, if_pos ⟨h6, by omega, by omega⟩]
    have h7 := bmL_rank0' (fl := (List.range (k : Int).toNat).map (cmpF (wd : Int).toNat op ws lim)) (fun j hj => by
      rw [hfl] at hj
      have := h2 j hj
      simpa [List.getD, List.getElem?_map, List.getElem?_range hj, cmpF] using this)
    rw [hfl] at h7
    have hkk : (k : Int).toNat = k := Int.toNat_natCast k
    rw [hkk] at h7 ⊢
    rw [h7]
    rfl
abbrev kN_I : Nat := 1
abbrev kN_S : Nat := 2
theorem kN_or_I : kN_I = 1 ∨ kN_I = 2 := .inl rfl
theorem kN_or_S : kN_S = 1 ∨ kN_S = 2 := .inr rfl
theorem rdK_I (m p : Nat) (xs : List Nat) (hp : p ≤ xs.length) :
    (rdI m (xs.drop p) false).2.1 = listOk kN_I m p xs ∧ (listOk kN_I m p xs = true → (rdI m (xs.drop p) false).1.map pK_I = listP kN_I m p xs ∧ (rdI m (xs.drop p) false).2.2.1 = xs.drop (listNx kN_I m p xs) ∧ (rdI m (xs.drop p) false).2.2.2 = false ∧ listNx kN_I m p xs ≤ xs.length) := rd_eq_I m p xs hp
theorem rdK_S (m p : Nat) (xs : List Nat) (hp : p ≤ xs.length) :
    (rdS m (xs.drop p) false).2.1 = listOk kN_S m p xs ∧ (listOk kN_S m p xs = true → (rdS m (xs.drop p) false).1.map pK_S = listP kN_S m p xs ∧ (rdS m (xs.drop p) false).2.2.1 = xs.drop (listNx kN_S m p xs) ∧ (rdS m (xs.drop p) false).2.2.2 = false ∧ listNx kN_S m p xs ≤ xs.length) := rd_eq_S m p xs hp
theorem noP_ge_I (vs : List Int) : noPair geP (vs.map pK_I) = noPair geI vs := by rw [noPair_map]; congr 1; funext a b; exact ge_pK_I a b
theorem noP_ge_S (vs : List ByteArray) : noPair geP (vs.map pK_S) = noPair geS vs := by rw [noPair_map]; congr 1; funext a b; exact ge_pK_S a b
theorem noP_eq_I (vs : List Int) : noPair eqP (vs.map pK_I) = noPair eqI vs := by rw [noPair_map]; congr 1; funext a b; exact eq_pK_I a b
theorem noP_eq_S (vs : List ByteArray) : noPair eqP (vs.map pK_S) = noPair eqS vs := by rw [noPair_map]; congr 1; funext a b; exact eq_pK_S a b
theorem map_getD {α β : Type} (f : α → β) (xs : List α) (i : Nat) (a : α) (b : β) (h : i < xs.length) : (xs.map f).getD i b = f (xs.getD i a) := by
  simp [List.getD, List.getElem?_map, List.getElem?_eq_getElem h]
theorem drop_nil (n : Nat) (xs : List Nat) (h : n ≤ xs.length) : decide (xs.drop n = []) = decide (n = xs.length) := by
  by_cases h2 : n = xs.length
  · rw [decide_eq_true h2, decide_eq_true (List.drop_eq_nil_iff.2 (by omega))]
  · rw [decide_eq_false h2, decide_eq_false (fun h3 => h2 (by have := List.drop_eq_nil_iff.1 h3; omega))]
theorem endsUp_len (es : List Int) : ∀ l m : Int, endsUp l es = some m → l + es.length ≤ m := by
  induction es with
  | nil => intro l m h; simp [endsUp] at h; simp; omega
  | cons e r ih =>
    intro l m h
    simp only [endsUp] at h
    split at h
    · cases h
    · have := ih e m h
      simp only [List.length_cons]
      omega
theorem endsUp_all (es : List Int) : ∀ l m : Int, endsUp l es = some m → ∀ a, a < es.length → es.getD a 0 ≤ m := by
  induction es with
  | nil => intro l m h a ha; simp at ha
  | cons e r ih =>
    intro l m h a ha
    simp only [endsUp] at h
    split at h
    · cases h
    · cases a with
      | zero => have := endsUp_ge r e m h; simpa using this
      | succ a => have := ih e m h a (by simpa using ha); simpa using this
theorem fillP_get (heads : List PV) (ends : List Nat) : ∀ (i l : Nat), i ≤ ends.length → endsUp 0 (nI (ends.take i)) = some (l : Int) → ∀ j, j < l → (fillP heads ends i).getD j dfP = heads.getD (firstGe (nI ends) ((j : Int) + 1)) dfP
  | 0, l, _, h, j, hj => by simp [nI, endsUp] at h; omega
  | i + 1, l, hi, h, j, hj => by
    cases h0 : endsUp 0 (nI (ends.take i)) with
    | none =>
      have e : ends.take (i + 1) = ends.take i ++ [ends.getD i 0] := by
        rw [List.take_succ_eq_append_getElem (by omega)]; simp [List.getD, List.getElem?_eq_getElem (show i < ends.length by omega)]
      rw [e, nI_append, endsUp_none _ _ _ h0] at h
      cases h
    | some m =>
      have hm := endsUp_ge _ _ _ h0
      obtain ⟨m, rfl⟩ := Int.eq_ofNat_of_zero_le hm
      have hlen := fillP_len heads ends i m (by omega) h0
      have hall := endsUp_all _ _ _ h0
      rw [endsUp_step ends i m (by omega) h0] at h
      split at h
      · cases h
      · rename_i hc
        injection h with h
        have hl : ends.getD i 0 = l := by omega
        simp only [fillP]
        by_cases hjm : j < m
        · have := fillP_get heads ends i m (by omega) h0 j hjm
          rw [← this]
          simp only [List.getD]
          rw [List.getElem?_append_left (by omega)]
        · have hf : firstGe (nI ends) ((j : Int) + 1) = i := by
            refine firstGe_eq _ _ _ (by rw [nI_length]; omega) (fun a ha => ?_) (fun _ => ?_)
            · have h2 := hall a (by rw [nI_length, List.length_take]; omega)
              rw [nI_getD _ _ (by rw [List.length_take]; omega)] at h2
              rw [nI_getD _ _ (by omega)]
              have h3 : (ends.take i).getD a 0 = ends.getD a 0 := by simp only [List.getD, List.getElem?_take]; rw [if_pos ha]
              rw [h3] at h2
              omega
            · rw [nI_getD _ _ (by omega)]; omega
          rw [hf]
          simp only [List.getD]
          rw [List.getElem?_append_right (by omega), hlen, List.getElem?_replicate, if_pos (by simp only [List.getD] at hl; omega)]
          rfl
theorem restW_mod (xl : List Nat) : tkS (8 * (xl.length / 8)) xl false = false ∧ (decide (tkL (8 * (xl.length / 8)) xl = []) = decide (xl.length % 8 = 0)) := by
  have h : 8 * (xl.length / 8) ≤ xl.length := by omega
  refine ⟨by unfold tkS; rw [if_pos h], ?_⟩
  unfold tkL
  rw [if_pos h, drop_nil _ _ h]
  by_cases h2 : xl.length % 8 = 0
  · rw [decide_eq_true h2, decide_eq_true (by omega)]
  · rw [decide_eq_false h2, decide_eq_false (by omega)]
end Go.Proofs.YtdlkdiaobbakiaaGreatDoor
