/- The plain answer: the smallest and the greatest of values. -/
import Derived.Test.YthonbfojpbfmgaaGreatDoorLawfoldsplitB16
import Derived.Deep.RegionWith
import Derived.Lib.SlicesCompact
import Derived.Sort.Walk0
set_option linter.unusedVariables false
set_option linter.unusedSimpArgs false
set_option linter.unnecessarySimpa false
set_option maxRecDepth 100000
namespace Go.Proofs.YthonbfojpbfmgaaGreatDoor
open Go.RowKit

def zeroP : PV := (0, ByteArray.empty)
def minP : List PV → PV
  | [] => zeroP
  | v :: r => r.foldl (fun m x => if ordP x m < 0 then x else m) v
def maxP : List PV → PV
  | [] => zeroP
  | v :: r => r.foldl (fun m x => if 0 < ordP x m then x else m) v
theorem minP_snoc (vs : List PV) (v : PV) : minP (vs ++ [v]) = if vs = [] ∨ ordP v (minP vs) < 0 then v else minP vs := by
  cases vs with
  | nil => simp [minP]
  | cons a r => simp [minP]
theorem maxP_snoc (vs : List PV) (v : PV) : maxP (vs ++ [v]) = if vs = [] ∨ 0 < ordP v (maxP vs) then v else maxP vs := by
  cases vs with
  | nil => simp [maxP]
  | cons a r => simp [maxP]
/-- a value as a cell, in memory -/
def pvc (v : PV) : List Value := [.bool false, .int .i64 v.1, .string v.2]
structure ExS (w0 : World) (s : Nat) (w : World) (m M : PV) : Prop where
  r0 : Row w s 42 (pvc zeroP)
  r1 : Row w (s + 1) 42 (pvc zeroP)
  r2 : Row w (s + 1 + 1) 42 (pvc m)
  r3 : Row w (s + 1 + 1 + 1) 42 (pvc M)
  bl : Below s w0 w
  sz : s + 4 ≤ w.heap.size
theorem ExS.step {w0 : World} {s : Nat} {w w' : World} {m M : PV} (h : ExS w0 s w m M) (hb : Below w.heap.size w w') : ExS w0 s w' m M :=
  ⟨h.r0.mono hb, h.r1.mono hb, h.r2.mono hb, h.r3.mono hb, Below.trans h.bl (hb.mono (by have := h.sz; omega)), Nat.le_trans h.sz hb.size⟩
theorem setc3_other {w : World} {g p : Nat} {e : TypeId} {cs : List Value} (h : Row w g e cs) (ds : List Value) (hne : g ≠ p) : Row (setc3 w p ds) g e cs := by
  unfold setc3
  exact ((h.other (a := ⟨p, 0, none⟩) _ hne).other (a := ⟨p, 1, none⟩) _ hne).other (a := ⟨p, 2, none⟩) _ hne
end Go.Proofs.YthonbfojpbfmgaaGreatDoor

/- The plain answer: the place of a value, the different values. -/
set_option linter.unusedVariables false
set_option linter.unusedSimpArgs false
set_option linter.unnecessarySimpa false
set_option maxRecDepth 100000
namespace Go.Proofs.YthonbfojpbfmgaaGreatDoor
open Go.RowKit

def placeP (vs : List PV) (v : PV) : Nat := vs.findIdx fun x => eqP x v
theorem placeP_found (vs : List PV) (v : PV) (t : Nat) (h : t < vs.length) (h1 : ∀ u, u < t → eqP (vs.getD u dfP) v = false) (h2 : eqP (vs.getD t dfP) v = true) : placeP vs v = t := by
  unfold placeP
  refine (List.findIdx_eq h).2 ⟨?_, fun u hu => ?_⟩
  · simpa [List.getD, List.getElem?_eq_getElem h] using h2
  · have := h1 u hu
    simpa [List.getD, List.getElem?_eq_getElem (Nat.lt_trans hu h)] using this
end Go.Proofs.YthonbfojpbfmgaaGreatDoor

/- The plain answer: the different values, the smallest first. -/
set_option linter.unusedVariables false
set_option linter.unusedSimpArgs false
set_option linter.unnecessarySimpa false
set_option maxRecDepth 100000
namespace Go.Proofs.YthonbfojpbfmgaaGreatDoor
open Go.RowKit

def abv (l : Option PV) (x : PV) : Bool := match l with | none => true | some y => decide (0 < ordP x y)
def blw (a : Option PV) (x : PV) : Bool := match a with | none => true | some m => decide (ordP x m < 0)
def leastF (l a : Option PV) (x : PV) : Option PV := if (abv l x && blw a x) = true then some x else a
def leastP (l : Option PV) (vs : List PV) : Option PV := vs.foldl (leastF l) none
def diffs (vs : List PV) : Nat → List PV → List PV
  | 0, out => out
  | k + 1, out => match leastP out.getLast? vs with
    | none => out
    | some m => diffs vs k (out ++ [m])
def diffP (vs : List PV) : List PV := diffs vs 257 []
end Go.Proofs.YthonbfojpbfmgaaGreatDoor

/- Mathematics of the different values: each is one of the values, and none stands at or below the one before. -/
set_option maxRecDepth 512
set_option linter.unusedVariables false
set_option linter.unusedSimpArgs false
set_option linter.unnecessarySimpa false
namespace Go.Proofs.YthonbfojpbfmgaaGreatDoor
open Go.RowKit

theorem leastP_mem (l : Option PV) (vs : List PV) : ∀ (a : Option PV) (m : PV), vs.foldl (leastF l) a = some m → (a = some m) ∨ (m ∈ vs ∧ abv l m = true) := by
  induction vs with
  | nil => intro a m h; exact .inl h
  | cons v r ih =>
    intro a m h
    rw [List.foldl_cons] at h
    rcases ih _ _ h with h1 | ⟨h1, h2⟩
    · unfold leastF at h1
      split at h1
      · rename_i hc
        injection h1 with h1
        subst h1
        rw [Bool.and_eq_true] at hc
        exact .inr ⟨List.mem_cons_self, hc.1⟩
      · exact .inl h1
    · exact .inr ⟨List.mem_cons_of_mem _ h1, h2⟩
theorem leastP_some {l : Option PV} {vs : List PV} {m : PV} (h : leastP l vs = some m) : m ∈ vs ∧ abv l m = true := by
  rcases leastP_mem l vs none m h with h1 | h1
  · cases h1
  · exact h1
theorem diffs_mem (vs : List PV) : ∀ (k : Nat) (out : List PV), (∀ x ∈ out, x ∈ vs) → ∀ x ∈ diffs vs k out, x ∈ vs := by
  intro k
  induction k with
  | zero => intro out h; exact h
  | succ k ih =>
    intro out h
    unfold diffs
    cases hm : leastP out.getLast? vs with
    | none => exact h
    | some m =>
      refine ih _ (fun x hx => ?_)
      rcases List.mem_append.1 hx with h1 | h1
      · exact h x h1
      · rw [List.mem_singleton] at h1; subst h1; exact (leastP_some hm).1
theorem diffP_mem (vs : List PV) : ∀ x ∈ diffP vs, x ∈ vs := diffs_mem vs 257 [] (fun x h => by cases h)
theorem bytesLess_trans : ∀ a b c : List UInt8, Op.bytesLess a b = true → Op.bytesLess b c = true → Op.bytesLess a c = true := by
  intro a
  induction a with
  | nil =>
    intro b c h1 h2
    cases b with
    | nil => simp [Op.bytesLess] at h1
    | cons y b =>
      cases c with
      | nil => simp [Op.bytesLess] at h2
      | cons z c => simp [Op.bytesLess]
  | cons x a ih =>
    intro b c h1 h2
    cases b with
    | nil => simp [Op.bytesLess] at h1
    | cons y b =>
      cases c with
      | nil => simp [Op.bytesLess] at h2
      | cons z c =>
        simp only [Op.bytesLess, Bool.or_eq_true, Bool.and_eq_true, decide_eq_true_eq, beq_iff_eq] at h1 h2 ⊢
        rcases h1 with h1 | ⟨h1, h3⟩ <;> rcases h2 with h2 | ⟨h2, h4⟩
        · exact .inl (UInt8.lt_trans h1 h2)
        · subst h2; exact .inl h1
        · subst h1; exact .inl h2
        · subst h1 h2; exact .inr ⟨rfl, ih _ _ h3 h4⟩
theorem bytesLess_tri : ∀ a b : List UInt8, Op.bytesLess a b = false → a ≠ b → Op.bytesLess b a = true := by
  intro a
  induction a with
  | nil =>
    intro b h1 h2
    cases b with
    | nil => exact absurd rfl h2
    | cons y b => simp [Op.bytesLess] at h1
  | cons x a ih =>
    intro b h1 h2
    cases b with
    | nil => simp [Op.bytesLess]
    | cons y b =>
      rw [← Bool.not_eq_true] at h1
      simp only [Op.bytesLess, Bool.or_eq_true, Bool.and_eq_true, decide_eq_true_eq, beq_iff_eq] at h1 ⊢
      by_cases hxy : x = y
      · subst hxy
        refine .inr ⟨rfl, ih b ?_ (fun h => h2 (by rw [h]))⟩
        rw [← Bool.not_eq_true]
        exact fun h => h1 (.inr ⟨rfl, h⟩)
      · refine .inl ?_
        rcases UInt8.lt_or_lt_of_ne hxy with h | h
        · exact absurd (.inl h) h1
        · exact h
theorem bytesLess_self : ∀ l : List UInt8, Op.bytesLess l l = false := by
  intro l
  induction l with
  | nil => rfl
  | cons a l ih => rw [Op.bytesLess, ih]; simp
def gtP (a b : PV) : Prop := b.1 < a.1 ∨ (a.1 = b.1 ∧ Op.bytesLess b.2.toList a.2.toList = true)
theorem ordP_pos {a b : PV} (h : 0 < ordP a b) : gtP a b := by
  unfold ordP at h
  unfold gtP
  by_cases h1 : a.1 < b.1
  · rw [if_pos h1] at h; omega
  · rw [if_neg h1] at h
    by_cases h2 : b.1 < a.1
    · exact .inl h2
    · rw [if_neg h2] at h
      refine .inr ⟨by omega, ?_⟩
      unfold ordS ltS eqS at h
      split at h
      · omega
      · rename_i h3
        split at h
        · rename_i h4
          simp only [Bool.not_eq_true', Bool.or_eq_false_iff, beq_eq_false_iff_ne] at h4
          exact bytesLess_tri _ _ h4.1 h4.2
        · omega
theorem gtP_trans {a b c : PV} (h1 : gtP a b) (h2 : gtP b c) : gtP a c := by
  rcases h1 with h1 | ⟨h1, h3⟩ <;> rcases h2 with h2 | ⟨h2, h4⟩
  · exact .inl (by omega)
  · exact .inl (by omega)
  · exact .inl (by omega)
  · exact .inr ⟨by omega, bytesLess_trans _ _ _ h4 h3⟩
theorem gtP_irrefl (a : PV) : ¬ gtP a a := by
  rintro (h | ⟨_, h⟩)
  · omega
  · rw [bytesLess_self] at h; cases h
theorem diffs_inc (vs : List PV) : ∀ (k : Nat) (out : List PV), out.Pairwise (fun a b => gtP b a) → (diffs vs k out).Pairwise (fun a b => gtP b a) := by
  intro k
  induction k with
  | zero => intro out h; exact h
  | succ k ih =>
    intro out h
    unfold diffs
    cases hm : leastP out.getLast? vs with
    | none => exact h
    | some m =>
      refine ih _ ?_
      have ha := (leastP_some hm).2
      rw [List.pairwise_append]
      refine ⟨h, List.pairwise_singleton _ _, fun x hx y hy => ?_⟩
      rw [List.mem_singleton] at hy
      subst hy
      rcases List.eq_nil_or_concat out with rfl | ⟨pre, z, rfl⟩
      · cases hx
      · simp only [List.concat_eq_append] at *
        rw [List.getLast?_append] at ha
        simp only [List.getLast?_singleton, Option.some_or, abv, decide_eq_true_eq] at ha
        have hz := ordP_pos ha
        rcases List.mem_append.1 hx with h1 | h1
        · have h2 := (List.pairwise_append.1 h).2.2 x h1 z (by simp)
          exact gtP_trans hz h2
        · rw [List.mem_singleton] at h1; subst h1; exact hz
theorem diffP_inc (vs : List PV) : (diffP vs).Pairwise (fun a b => gtP b a) := diffs_inc vs 257 [] List.Pairwise.nil
theorem diffP_nodup (vs : List PV) : (diffP vs).Nodup := (diffP_inc vs).imp (fun {a b} h he => by subst he; exact gtP_irrefl _ h)
theorem sumT_append (a b : List PV) : sumT (a ++ b) = sumT a + sumT b := by unfold sumT sumS; rw [List.map_append, List.map_append, List.sum_append]
theorem sumT_nodup : ∀ (ds vs : List PV), ds.Nodup → (∀ x ∈ ds, x ∈ vs) → sumT ds ≤ sumT vs := by
  intro ds
  induction ds with
  | nil => intro vs _ _; simp [sumT, sumS]
  | cons d r ih =>
    intro vs hn hs
    obtain ⟨s, t, rfl⟩ := List.append_of_mem (hs d List.mem_cons_self)
    have hnd := List.nodup_cons.1 hn
    have h := ih (s ++ t) hnd.2 (fun x hx => by
      have h1 := hs x (List.mem_cons_of_mem _ hx)
      rw [List.mem_append, List.mem_cons] at h1
      rw [List.mem_append]
      rcases h1 with h1 | h1 | h1
      · exact .inl h1
      · subst h1; exact absurd hx hnd.1
      · exact .inr h1)
    rw [sumT_append] at h
    rw [sumT_append, sumT_cons, sumT_cons]
    omega
theorem diffP_sum (vs : List PV) : sumT (diffP vs) ≤ sumT vs := sumT_nodup _ _ (diffP_nodup vs) (diffP_mem vs)
theorem ordP_neg {a b : PV} (h : gtP a b) : ordP b a < 0 := by
  unfold ordP
  rcases h with h | ⟨h1, h2⟩
  · rw [if_pos h]; omega
  · rw [if_neg (by omega), if_neg (by omega)]
    unfold ordS ltS
    rw [if_pos h2]; omega
theorem leastP_none {l : Option PV} {vs : List PV} (h : leastP l vs = none) : ∀ x ∈ vs, abv l x = false := by
  have key : ∀ (vs : List PV) (a : Option PV), vs.foldl (leastF l) a = none → a = none ∧ ∀ x ∈ vs, abv l x = false := by
    intro vs
    induction vs with
    | nil => intro a h; exact ⟨h, fun x hx => by cases hx⟩
    | cons v r ih =>
      intro a h
      rw [List.foldl_cons] at h
      obtain ⟨h1, h2⟩ := ih _ h
      unfold leastF at h1
      split at h1
      · cases h1
      · rename_i hc
        subst h1
        refine ⟨rfl, fun x hx => ?_⟩
        rcases List.mem_cons.1 hx with rfl | hx
        · simpa [blw] using hc
        · exact h2 x hx
  exact (key vs none h).2
theorem leastP_min {l : Option PV} {vs : List PV} {m : PV} (h : leastP l vs = some m) : ∀ x ∈ vs, abv l x = true → ¬ gtP m x := by
  have key : ∀ (vs : List PV) (a : Option PV) (m : PV), vs.foldl (leastF l) a = some m → (∀ a0, a = some a0 → a0 = m ∨ gtP a0 m) ∧ ∀ x ∈ vs, abv l x = true → ¬ gtP m x := by
    intro vs
    induction vs with
    | nil => intro a m h; exact ⟨fun a0 h0 => .inl (by rw [List.foldl_nil] at h; rw [h] at h0; injection h0 with h0; exact h0.symm), fun x hx => by cases hx⟩
    | cons v r ih =>
      intro a m h
      rw [List.foldl_cons] at h
      obtain ⟨h1, h2⟩ := ih _ m h
      unfold leastF at h1
      by_cases hc : (abv l v && blw a v) = true
      · rw [if_pos hc] at h1
        have hv := h1 v rfl
        refine ⟨fun a0 h0 => ?_, fun x hx hxl => ?_⟩
        · subst h0
          rw [Bool.and_eq_true] at hc
          have hb : ordP v a0 < 0 := by simpa [blw] using hc.2
          have hg : gtP a0 v := by
            by_cases hg : gtP a0 v
            · exact hg
            · exfalso
              unfold gtP at hg
              unfold ordP at hb
              by_cases h3 : v.1 < a0.1
              · exact hg (.inl h3)
              · rw [if_neg h3] at hb
                by_cases h4 : a0.1 < v.1
                · rw [if_pos h4] at hb; omega
                · rw [if_neg h4] at hb
                  unfold ordS ltS at hb
                  split at hb
                  · rename_i h5; exact hg (.inr ⟨by omega, h5⟩)
                  · split at hb <;> omega
          rcases hv with rfl | hv
          · exact .inr hg
          · exact .inr (gtP_trans hg hv)
        · rcases List.mem_cons.1 hx with rfl | hx
          · intro hg
            rcases hv with rfl | hv
            · exact gtP_irrefl _ hg
            · exact gtP_irrefl _ (gtP_trans hg hv)
          · exact h2 x hx hxl
      · rw [if_neg hc] at h1
        refine ⟨h1, fun x hx hxl => ?_⟩
        rcases List.mem_cons.1 hx with rfl | hx
        · intro hg
          rw [hxl, Bool.true_and] at hc
          cases a with
          | none => simp [blw] at hc
          | some a0 =>
            have hb : ¬ ordP x a0 < 0 := by simpa [blw] using hc
            rcases h1 a0 rfl with rfl | h3
            · exact hb (ordP_neg hg)
            · exact hb (ordP_neg (gtP_trans h3 hg))
        · exact h2 x hx hxl
  exact (key vs none m h).2
end Go.Proofs.YthonbfojpbfmgaaGreatDoor

/- Mathematics: what is sorted and then cleared of repeats is the list of the different values. -/
set_option maxRecDepth 512
set_option linter.unusedVariables false
set_option linter.unusedSimpArgs false
set_option linter.unnecessarySimpa false
namespace Go.Proofs.YthonbfojpbfmgaaGreatDoor
open Go.RowKit

theorem pv_ext {a b : PV} (h1 : a.1 = b.1) (h2 : a.2.toList = b.2.toList) : a = b := by
  rw [ByteArray.toList_eq, ByteArray.toList_eq] at h2
  obtain ⟨a1, ⟨a2⟩⟩ := a
  obtain ⟨b1, ⟨b2⟩⟩ := b
  simp only at h1 h2
  subst h1
  rw [Array.toList_inj.1 h2]
theorem gtP_tri {a b : PV} (h : ¬ gtP a b) (hne : a ≠ b) : gtP b a := by
  unfold gtP at h ⊢
  by_cases h1 : a.1 < b.1
  · exact .inl h1
  · have h2 : a.1 = b.1 := by
      by_cases h3 : b.1 < a.1
      · exact absurd (.inl h3) h
      · omega
    refine .inr ⟨h2.symm, ?_⟩
    refine bytesLess_tri _ _ ?_ ?_
    · rw [← Bool.not_eq_true]; exact fun h3 => h (.inr ⟨h2, h3⟩)
    · exact fun h3 => hne (pv_ext h2 h3.symm)
theorem ordP_gt {a b : PV} (h : gtP a b) : 0 < ordP a b := by
  unfold ordP
  rcases h with h | ⟨h1, h2⟩
  · rw [if_neg (by omega), if_pos h]; omega
  · rw [if_neg (by omega), if_neg (by omega)]
    unfold ordS ltS eqS
    have h3 : Op.bytesLess a.2.toList b.2.toList = false := by
      rw [← Bool.not_eq_true]; intro h3
      have := bytesLess_trans _ _ _ h3 h2
      rw [bytesLess_self] at this; cases this
    have h4 : (a.2.toList == b.2.toList) = false := by
      rw [beq_eq_false_iff_ne]; intro h4
      rw [h4, bytesLess_self] at h2; cases h2
    rw [h3, h4]; decide
theorem diffs_all (vs : List PV) : ∀ (k : Nat) (out : List PV), (∀ x ∈ vs, x ∈ out ∨ abv out.getLast? x = true) → (diffs vs k out).length < out.length + k → ∀ x ∈ vs, x ∈ diffs vs k out := by
  intro k
  induction k with
  | zero => intro out _ h; exact absurd h (by unfold diffs; omega)
  | succ k ih =>
    intro out hin h
    unfold diffs at h ⊢
    cases hm : leastP out.getLast? vs with
    | none =>
      intro x hx
      rcases hin x hx with h1 | h1
      · exact h1
      · have := leastP_none hm x hx; rw [h1] at this; cases this
    | some m =>
      rw [hm] at h
      simp only at h ⊢
      refine ih _ (fun x hx => ?_) (by rw [List.length_append]; simp only [List.length_cons, List.length_nil]; omega)
      rcases hin x hx with h1 | h1
      · exact .inl (List.mem_append_left _ h1)
      · by_cases hxm : x = m
        · subst hxm; exact .inl (by simp)
        · refine .inr ?_
          have h2 := gtP_tri (leastP_min hm x hx h1) (fun e => hxm e.symm)
          rw [List.getLast?_append, List.getLast?_singleton]
          simp only [Option.some_or, abv, decide_eq_true_eq]
          exact ordP_gt h2
theorem diffP_all (vs : List PV) (h : (diffP vs).length ≤ 256) : ∀ x ∈ vs, x ∈ diffP vs := by
  unfold diffP at h ⊢
  exact diffs_all vs 257 [] (fun x _ => .inr rfl) (by simp only [List.length_nil]; omega)
theorem inc_eq : ∀ (az bs : List PV), az.Pairwise (fun a b => gtP b a) → bs.Pairwise (fun a b => gtP b a) → (∀ x, x ∈ az ↔ x ∈ bs) → az = bs := by
  intro az
  induction az with
  | nil =>
    intro bs _ _ h
    cases bs with
    | nil => rfl
    | cons b r => exact absurd ((h b).2 List.mem_cons_self) (by simp)
  | cons a r ih =>
    intro bs h1 h2 h
    cases bs with
    | nil => exact absurd ((h a).1 List.mem_cons_self) (by simp)
    | cons b s =>
      obtain ⟨p1, p2⟩ := List.pairwise_cons.1 h1
      obtain ⟨q1, q2⟩ := List.pairwise_cons.1 h2
      have hab : a = b := by
        rcases List.mem_cons.1 ((h a).1 List.mem_cons_self) with e | e
        · exact e
        · rcases List.mem_cons.1 ((h b).2 List.mem_cons_self) with e2 | e2
          · exact e2.symm
          · exact absurd (gtP_trans (q1 a e) (p1 b e2)) (gtP_irrefl a)
      subst hab
      rw [ih s p2 q2 (fun x => ?_)]
      constructor
      · intro hx
        rcases List.mem_cons.1 ((h x).1 (List.mem_cons_of_mem _ hx)) with e | e
        · subst e; exact absurd (p1 x hx) (gtP_irrefl x)
        · exact e
      · intro hx
        rcases List.mem_cons.1 ((h x).2 (List.mem_cons_of_mem _ hx)) with e | e
        · subst e; exact absurd (q1 x hx) (gtP_irrefl x)
        · exact e
theorem nodup_len : ∀ (ds vs : List PV), ds.Nodup → (∀ x ∈ ds, x ∈ vs) → ds.length ≤ vs.length := by
  intro ds
  induction ds with
  | nil => intro vs _ _; simp
  | cons d r ih =>
    intro vs hn hs
    obtain ⟨s, t, rfl⟩ := List.append_of_mem (hs d List.mem_cons_self)
    have hnd := List.nodup_cons.1 hn
    have h := ih (s ++ t) hnd.2 (fun x hx => by
      have h1 := hs x (List.mem_cons_of_mem _ hx)
      rw [List.mem_append, List.mem_cons] at h1
      rw [List.mem_append]
      rcases h1 with h1 | h1 | h1
      · exact .inl h1
      · subst h1; exact absurd hx hnd.1
      · exact .inr h1)
    simp only [List.length_append, List.length_cons] at h ⊢
    omega
theorem diffP_is {vs cs : List PV} (hi : cs.Pairwise (fun a b => gtP b a)) (hm : ∀ x, x ∈ cs ↔ x ∈ vs) (h : cs.length ≤ 256) : diffP vs = cs := by
  have h1 : (diffP vs).length ≤ cs.length := nodup_len _ _ (diffP_nodup vs) (fun x hx => (hm x).2 (diffP_mem vs x hx))
  exact inc_eq _ _ (diffP_inc vs) hi (fun x => ⟨fun hx => (hm x).2 (diffP_mem vs x hx), fun hx => diffP_all vs (by omega) x ((hm x).1 hx)⟩)
theorem diffP_big {vs cs : List PV} (hi : cs.Pairwise (fun a b => gtP b a)) (hm : ∀ x, x ∈ cs ↔ x ∈ vs) (h : 256 < cs.length) : 256 < (diffP vs).length := by
  by_cases h1 : (diffP vs).length ≤ 256
  · have := inc_eq _ _ (diffP_inc vs) hi (fun x => ⟨fun hx => (hm x).2 (diffP_mem vs x hx), fun hx => diffP_all vs h1 x ((hm x).1 hx)⟩)
    rw [this] at h1; omega
  · omega

section
variable {α : Type} [Inhabited α] [DecidableEq α] (lt : α → α → Prop)
theorem compactUpTo_inc (hT : ∀ a b c, lt a b → lt b c → lt a c) (d : Array α) (hs : ∀ i j, i < j → j < d.size → lt d[i]! d[j]! ∨ d[i]! = d[j]!) :
    ∀ m, m ≤ d.size → (Lib.compactUpTo d m).Pairwise lt ∧ (∀ x ∈ Lib.compactUpTo d m, ∃ j, j < m ∧ d[j]! = x) ∧ (∀ j, j < m → d[j]! ∈ Lib.compactUpTo d m) := by
  intro m
  induction m with
  | zero => intro _; exact ⟨by simp [Lib.compactUpTo], by simp [Lib.compactUpTo], fun j hj => by omega⟩
  | succ m ih =>
    intro hm
    obtain ⟨h1, h2, h3⟩ := ih (by omega)
    rw [Lib.compactUpTo_succ]
    by_cases hk : Lib.keeps d m = true
    · rw [if_pos hk]
      refine ⟨?_, ?_, ?_⟩
      · rw [List.pairwise_append]
        refine ⟨h1, List.pairwise_singleton _ _, fun x hx y hy => ?_⟩
        rw [List.mem_singleton] at hy
        subst hy
        obtain ⟨j, hj, rfl⟩ := h2 x hx
        have hne : d[m]! ≠ d[m - 1]! := by
          simp only [Lib.keeps, decide_eq_true_eq] at hk
          rcases hk with hk | hk
          · omega
          · exact hk
        have hl : lt d[m - 1]! d[m]! := by
          rcases hs (m - 1) m (by omega) (by omega) with h | h
          · exact h
          · exact absurd h.symm hne
        by_cases hjm : j = m - 1
        · subst hjm; exact hl
        · rcases hs j (m - 1) (by omega) (by omega) with h | h
          · exact hT _ _ _ h hl
          · rw [h]; exact hl
      · intro x hx
        rcases List.mem_append.1 hx with h | h
        · obtain ⟨j, hj, e⟩ := h2 x h; exact ⟨j, by omega, e⟩
        · rw [List.mem_singleton] at h; exact ⟨m, by omega, h.symm⟩
      · intro j hj
        by_cases e : j = m
        · subst e; simp
        · exact List.mem_append_left _ (h3 j (by omega))
    · rw [if_neg hk, List.append_nil]
      refine ⟨h1, fun x hx => ?_, fun j hj => ?_⟩
      · obtain ⟨j, hj, e⟩ := h2 x hx; exact ⟨j, by omega, e⟩
      · by_cases e : j = m
        · subst e
          simp only [Lib.keeps, decide_eq_true_eq, not_or, Classical.not_not] at hk
          rw [hk.2]
          exact h3 (j - 1) (by omega)
        · exact h3 j (by omega)
theorem compact_inc (hT : ∀ a b c, lt a b → lt b c → lt a c) (zs : List α) (hs : zs.Pairwise (fun a b => lt a b ∨ a = b)) :
    (Lib.compact zs).Pairwise lt ∧ (∀ x, x ∈ Lib.compact zs ↔ x ∈ zs) := by
  have h := compactUpTo_inc lt hT zs.toArray (fun i j hij hj => by
    have hj' : j < zs.length := by simpa using hj
    rw [getElem!_pos zs.toArray i (by simp; omega), getElem!_pos zs.toArray j hj]
    simp only [List.getElem_toArray]
    exact List.pairwise_iff_getElem.1 hs i j (by omega) hj' hij) zs.length (by simp)
  refine ⟨h.1, fun x => ⟨fun hx => ?_, fun hx => ?_⟩⟩
  · obtain ⟨j, hj, rfl⟩ := h.2.1 x hx
    rw [getElem!_pos zs.toArray j (by simpa using hj)]
    simp
  · obtain ⟨j, hj, rfl⟩ := List.getElem_of_mem hx
    have := h.2.2 j hj
    rw [getElem!_pos zs.toArray j (by simpa using hj)] at this
    unfold Lib.compact
    simpa using this
end

def dictI (xs : List Int) : List Int := Lib.compact (xs.mergeSort fun x y => decide (x ≤ y))
theorem dictI_spec (xs : List Int) : (dictI xs).Pairwise (· < ·) ∧ (∀ x, x ∈ dictI xs ↔ x ∈ xs) := by
  have h := compact_inc (fun a b : Int => a < b) (fun a b c h1 h2 => Int.lt_trans h1 h2) (xs.mergeSort fun x y => decide (x ≤ y)) (by
    have h := List.pairwise_mergeSort (le := fun x y : Int => decide (x ≤ y)) (fun a b c h1 h2 => by simp at h1 h2 ⊢; omega) (fun a b => by simp; omega) xs
    exact h.imp (fun {a b} h => by simp at h; omega))
  exact ⟨h.1, fun x => (h.2 x).trans (List.mergeSort_perm xs _).mem_iff⟩
theorem gtP_pI (x y : Int) : gtP (pI y) (pI x) ↔ x < y := by
  unfold gtP pI
  simp only [bytesLess_self, Bool.false_eq_true, and_false, or_false]
theorem dictI_inc (xs : List Int) : ((dictI xs).map pI).Pairwise (fun a b => gtP b a) := by
  rw [List.pairwise_map]
  exact (dictI_spec xs).1.imp (fun {a b} h => (gtP_pI a b).2 h)
theorem dictI_mem (xs : List Int) : ∀ x, x ∈ (dictI xs).map pI ↔ x ∈ xs.map pI := by
  intro x
  simp only [List.mem_map, (dictI_spec xs).2]
theorem dictI_diff (xs : List Int) (h : (dictI xs).length ≤ 256) : diffP (xs.map pI) = (dictI xs).map pI := diffP_is (dictI_inc xs) (dictI_mem xs) (by simpa using h)
theorem dictI_big (xs : List Int) (h : 256 < (dictI xs).length) : 256 < (diffP (xs.map pI)).length := diffP_big (dictI_inc xs) (dictI_mem xs) (by simpa using h)

def dictS (ss : List ByteArray) : List ByteArray := (Lib.compact ((ss.map (·.data.toList)).mergeSort fun x y => decide (x ≤ y))).map fun l => ⟨l.toArray⟩
theorem dictS_spec (ss : List ByteArray) : ((dictS ss).map pS).Pairwise (fun a b => gtP b a) ∧ (∀ x, x ∈ (dictS ss).map pS ↔ x ∈ ss.map pS) := by
  have h := compact_inc (fun a b : List UInt8 => a < b) (fun a b c h1 h2 => List.lt_trans h1 h2) ((ss.map (·.data.toList)).mergeSort fun x y => decide (x ≤ y)) (by
    have h := List.pairwise_mergeSort (le := fun x y : List UInt8 => decide (x ≤ y)) (fun a b c h1 h2 => by simp only [decide_eq_true_eq] at h1 h2 ⊢; exact List.le_trans h1 h2) (fun a b => by simp only [Bool.or_eq_true, decide_eq_true_eq]; exact List.le_total a b) (ss.map (·.data.toList))
    exact h.imp (fun {a b} h => by
      simp only [decide_eq_true_eq] at h
      exact List.le_iff_lt_or_eq.1 h))
  refine ⟨?_, fun x => ?_⟩
  · unfold dictS
    rw [List.pairwise_map, List.pairwise_map]
    refine h.1.imp (fun {a b} h => .inr ⟨rfl, ?_⟩)
    unfold pS
    rw [ByteArray.toList_eq, ByteArray.toList_eq, bytesLess_eq]
    simpa using h
  · unfold dictS
    simp only [List.mem_map, h.2, (List.mergeSort_perm _ _).mem_iff]
    constructor
    · rintro ⟨a, ⟨b, ⟨c, hc, rfl⟩, rfl⟩, rfl⟩
      exact ⟨c, hc, by rw [Array.toArray_toList]⟩
    · rintro ⟨a, ha, rfl⟩
      exact ⟨a, ⟨_, ⟨a, ha, rfl⟩, by rw [Array.toArray_toList]⟩, rfl⟩
theorem dictS_diff (ss : List ByteArray) (h : (dictS ss).length ≤ 256) : diffP (ss.map pS) = (dictS ss).map pS := diffP_is (dictS_spec ss).1 (dictS_spec ss).2 (by simpa using h)
theorem dictS_big (ss : List ByteArray) (h : 256 < (dictS ss).length) : 256 < (diffP (ss.map pS)).length := diffP_big (dictS_spec ss).1 (dictS_spec ss).2 (by simpa using h)
end Go.Proofs.YthonbfojpbfmgaaGreatDoor

/- The plain answer: the payload by a dictionary. -/
set_option linter.unusedVariables false
set_option linter.unusedSimpArgs false
set_option linter.unnecessarySimpa false
set_option maxRecDepth 100000
namespace Go.Proofs.YthonbfojpbfmgaaGreatDoor
open Go.RowKit

theorem needN_le512 (d : Nat) (h : d ≤ 512) : needN d ≤ 9 := by
  unfold needN; split
  · omega
  · have : (d - 1).log2 < 9 := (Nat.log2_lt (by omega)).2 (by omega)
    omega
theorem diffs_len (vs : List PV) : ∀ (k : Nat) (out : List PV), (diffs vs k out).length ≤ out.length + k := by
  intro k
  induction k with
  | zero => intro out; exact Nat.le_refl _
  | succ k ih =>
    intro out
    unfold diffs
    cases leastP out.getLast? vs with
    | none => simp only; omega
    | some m => have := ih (out ++ [m]); simp only [List.length_append, List.length_cons, List.length_nil] at this ⊢; omega
theorem diffP_len (vs : List PV) : (diffP vs).length ≤ 257 := by unfold diffP; have := diffs_len vs 257 []; simpa using this
def lanesD (vs : List PV) : List Nat := vs.map (placeP (diffP vs))
def dictB (kd : Nat) (vs : List PV) : List Nat := (leN 4 (diffP vs).length ++ listB kd (diffP vs)) ++ le8 (packR (needN (diffP vs).length : Nat) (lanesD vs))
theorem listB_len (kd : Nat) (vs : List PV) (hl : vs.length ≤ 1048576) (hs : sumT vs ≤ 67108864) : (listB kd vs).length ≤ 75497472 := by
  unfold listB; rw [List.length_append, textB_len]
  have h1 := headB_len kd vs
  have h2 : sumS (vs.map Prod.snd) = sumT vs := rfl
  omega
end Go.Proofs.YthonbfojpbfmgaaGreatDoor

/- The plain answer: the other payloads. -/
set_option linter.unusedVariables false
set_option linter.unusedSimpArgs false
set_option linter.unnecessarySimpa false
set_option maxRecDepth 100000
namespace Go.Proofs.YthonbfojpbfmgaaGreatDoor
open Go.RowKit

/-- the lanes of integers less a base -/
def lanesF (b : Nat) (vs : List PV) : List Nat := vs.map fun v => (toU v.1 + 18446744073709551616 - b) % 18446744073709551616
def frameB (wd : Int) (vs : List PV) : List Nat := leN 8 (toU (minP vs).1) ++ le8 (packR wd (lanesF (toU (minP vs).1) vs))
def frameOk (wd : Int) (vs : List PV) : Bool := okVals wd (lanesF (toU (minP vs).1) vs)
end Go.Proofs.YthonbfojpbfmgaaGreatDoor

/- The plain answer: packed values. -/
set_option linter.unusedVariables false
set_option linter.unusedSimpArgs false
set_option linter.unnecessarySimpa false
set_option maxRecDepth 100000
namespace Go.Proofs.YthonbfojpbfmgaaGreatDoor
open Go.RowKit

def lanesK (vs : List PV) : List Nat := vs.map fun v => toU v.1
def packedB (wd : Int) (vs : List PV) : List Nat := le8 (packR wd (lanesK vs))
def packedOk (wd : Int) (vs : List PV) : Bool := vs.all (fun v => decide (0 ≤ v.1)) && okVals wd (lanesK vs)
/-! ### whatever the codec -/
def payB (kd code : Nat) (wd : Int) (vs : List PV) : List Nat :=
  if code = 2 then dictB kd vs else if code = 3 then runsB kd vs else if code = 4 then frameB wd vs else if code = 5 then packedB wd vs else listB kd vs
def payOk (code : Nat) (wd : Int) (vs : List PV) : Bool :=
  if code = 2 then decide ((diffP vs).length ≤ 256) else if code = 4 then frameOk wd vs else if code = 5 then packedOk wd vs else true
def payW (code : Nat) (wd : Int) (vs : List PV) : Int :=
  if code = 2 then (needN (diffP vs).length : Nat) else if code = 4 ∨ code = 5 then wd else 0
end Go.Proofs.YthonbfojpbfmgaaGreatDoor
