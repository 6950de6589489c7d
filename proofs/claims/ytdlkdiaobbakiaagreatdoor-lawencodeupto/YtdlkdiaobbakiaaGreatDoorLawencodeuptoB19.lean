/- Mathematics of the different values: each is one of the values, and none stands at or below the one before. -/
import Derived.Test.YtdlkdiaobbakiaaGreatDoorLawencodeuptoB18
import Derived.Lib.SlicesCompact
import Derived.Sort.Walk0
set_option linter.unusedVariables false
set_option linter.unusedSimpArgs false
set_option linter.unnecessarySimpa false
namespace Go.Proofs.YtdlkdiaobbakiaaGreatDoor
open Go.RowKit

theorem leastP_mem (l : Option PV) (vs : List PV) : ∀ (a : Option PV) (m : PV), vs.foldl (leastF l) a = some m → (a = some m) ∨ (m ∈ vs ∧ abv l m = true) := by
  induction vs with
  | nil => intro a m h; exact .inl h
  | cons v r ih =>
    intro a m h
    rw [List.foldl_cons] at h
    rcases ih _ _ h with h1 | ⟨h1, h2⟩
    · unfold leastF at h1
      split at h1
      · rename_i hc
        injection h1 with h1
        subst h1
        rw [Bool.and_eq_true] at hc
        exact .inr ⟨List.mem_cons_self, hc.1⟩
      · exact .inl h1
    · exact .inr ⟨List.mem_cons_of_mem _ h1, h2⟩
theorem leastP_some {l : Option PV} {vs : List PV} {m : PV} (h : leastP l vs = some m) : m ∈ vs ∧ abv l m = true := by
  rcases leastP_mem l vs none m h with h1 | h1
  · cases h1
  · exact h1
theorem diffs_mem (vs : List PV) : ∀ (k : Nat) (out : List PV), (∀ x ∈ out, x ∈ vs) → ∀ x ∈ diffs vs k out, x ∈ vs := by
  intro k
  induction k with
  | zero => intro out h; exact h
  | succ k ih =>
    intro out h
    unfold diffs
    cases hm : leastP out.getLast? vs with
    | none => exact h
    | some m =>
      refine ih _ (fun x hx => ?_)
      rcases List.mem_append.1 hx with h1 | h1
      · exact h x h1
      · rw [List.mem_singleton] at h1; subst h1; exact (leastP_some hm).1
theorem diffP_mem (vs : List PV) : ∀ x ∈ diffP vs, x ∈ vs := diffs_mem vs 257 [] (fun x h => by cases h)
theorem bytesLess_trans : ∀ a b c : List UInt8, Op.bytesLess a b = true → Op.bytesLess b c = true → Op.bytesLess a c = true := by
  intro a
  induction a with
  | nil =>
    intro b c h1 h2
    cases b with
    | nil => simp [Op.bytesLess] at h1
    | cons y b =>
      cases c with
      | nil => simp [Op.bytesLess] at h2
      | cons z c => simp [Op.bytesLess]
  | cons x a ih =>
    intro b c h1 h2
    cases b with
    | nil => simp [Op.bytesLess] at h1
    | cons y b =>
      cases c with
      | nil => simp [Op.bytesLess] at h2
      | cons z c =>
        simp only [Op.bytesLess, Bool.or_eq_true, Bool.and_eq_true, decide_eq_true_eq, beq_iff_eq] at h1 h2 ⊢
        rcases h1 with h1 | ⟨h1, h3⟩ <;> rcases h2 with h2 | ⟨h2, h4⟩
        · exact .inl (UInt8.lt_trans h1 h2)
        · subst h2; exact .inl h1
        · subst h1; exact .inl h2
        · subst h1 h2; exact .inr ⟨rfl, ih _ _ h3 h4⟩
theorem bytesLess_tri : ∀ a b : List UInt8, Op.bytesLess a b = false → a ≠ b → Op.bytesLess b a = true := by
  intro a
  induction a with
  | nil =>
    intro b h1 h2
    cases b with
    | nil => exact absurd rfl h2
    | cons y b => simp [Op.bytesLess] at h1
  | cons x a ih =>
    intro b h1 h2
    cases b with
    | nil => simp [Op.bytesLess]
    | cons y b =>
      rw [← Bool.not_eq_true] at h1
      simp only [Op.bytesLess, Bool.or_eq_true, Bool.and_eq_true, decide_eq_true_eq, beq_iff_eq] at h1 ⊢
      by_cases hxy : x = y
      · subst hxy
        refine .inr ⟨rfl, ih b ?_ (fun h => h2 (by rw [h]))⟩
        rw [← Bool.not_eq_true]
        exact fun h => h1 (.inr ⟨rfl, h⟩)
      · refine .inl ?_
        rcases UInt8.lt_or_lt_of_ne hxy with h | h
        · exact absurd (.inl h) h1
        · exact h
theorem bytesLess_self : ∀ l : List UInt8, Op.bytesLess l l = false := by
  intro l
  induction l with
  | nil => rfl
  | cons a l ih => rw [Op.bytesLess, ih]; simp
def gtP (a b : PV) : Prop := b.1 < a.1 ∨ (a.1 = b.1 ∧ Op.bytesLess b.2.toList a.2.toList = true)
theorem ordP_pos {a b : PV} (h : 0 < ordP a b) : gtP a b := by
  unfold ordP at h
  unfold gtP
  by_cases h1 : a.1 < b.1
  · rw [if_pos h1] at h; omega
  · rw [if_neg h1] at h
    by_cases h2 : b.1 < a.1
    · exact .inl h2
    · rw [if_neg h2] at h
      refine .inr ⟨by omega, ?_⟩
      unfold ordS ltS eqS at h
      split at h
      · omega
      · rename_i h3
        split at h
        · rename_i h4
          simp only [Bool.not_eq_true', Bool.or_eq_false_iff, beq_eq_false_iff_ne] at h4
          exact bytesLess_tri _ _ h4.1 h4.2
        · omega
theorem gtP_trans {a b c : PV} (h1 : gtP a b) (h2 : gtP b c) : gtP a c := by
  rcases h1 with h1 | ⟨h1, h3⟩ <;> rcases h2 with h2 | ⟨h2, h4⟩
  · exact .inl (by omega)
  · exact .inl (by omega)
  · exact .inl (by omega)
  · exact .inr ⟨by omega, bytesLess_trans _ _ _ h4 h3⟩
theorem gtP_irrefl (a : PV) : ¬ gtP a a := by
  rintro (h | ⟨_, h⟩)
  · omega
  · rw [bytesLess_self] at h; cases h
theorem diffs_inc (vs : List PV) : ∀ (k : Nat) (out : List PV), out.Pairwise (fun a b => gtP b a) → (diffs vs k out).Pairwise (fun a b => gtP b a) := by
  intro k
  induction k with
  | zero => intro out h; exact h
  | succ k ih =>
    intro out h
    unfold diffs
    cases hm : leastP out.getLast? vs with
    | none => exact h
    | some m =>
      refine ih _ ?_
      have ha := (leastP_some hm).2
      rw [List.pairwise_append]
      refine ⟨h, List.pairwise_singleton _ _, fun x hx y hy => ?_⟩
      rw [List.mem_singleton] at hy
      subst hy
      rcases List.eq_nil_or_concat out with rfl | ⟨pre, z, rfl⟩
      · cases hx
      · simp only [List.concat_eq_append] at *
        rw [List.getLast?_append] at ha
        simp only [List.getLast?_singleton, Option.some_or, abv, decide_eq_true_eq] at ha
        have hz := ordP_pos ha
        rcases List.mem_append.1 hx with h1 | h1
        · have h2 := (List.pairwise_append.1 h).2.2 x h1 z (by simp)
          exact gtP_trans hz h2
        · rw [List.mem_singleton] at h1; subst h1; exact hz
theorem diffP_inc (vs : List PV) : (diffP vs).Pairwise (fun a b => gtP b a) := diffs_inc vs 257 [] List.Pairwise.nil
theorem diffP_nodup (vs : List PV) : (diffP vs).Nodup := (diffP_inc vs).imp (fun {a b} h he => by subst he; exact gtP_irrefl _ h)
theorem sumT_append (a b : List PV) : sumT (a ++ b) = sumT a + sumT b := by unfold sumT sumS; rw [List.map_append, List.map_append, List.sum_append]
theorem sumT_nodup : ∀ (ds vs : List PV), ds.Nodup → (∀ x ∈ ds, x ∈ vs) → sumT ds ≤ sumT vs := by
  intro ds
  induction ds with
  | nil => intro vs _ _; simp [sumT, sumS]
  | cons d r ih =>
    intro vs hn hs
    obtain ⟨s, t, rfl⟩ := List.append_of_mem (hs d List.mem_cons_self)
    have hnd := List.nodup_cons.1 hn
    have h := ih (s ++ t) hnd.2 (fun x hx => by
      have h1 := hs x (List.mem_cons_of_mem _ hx)
      rw [List.mem_append, List.mem_cons] at h1
      rw [List.mem_append]
      rcases h1 with h1 | h1 | h1
      · exact .inl h1
      · subst h1; exact absurd hx hnd.1
      · exact .inr h1)
    rw [sumT_append] at h
    rw [sumT_append, sumT_cons, sumT_cons]
    omega
theorem diffP_sum (vs : List PV) : sumT (diffP vs) ≤ sumT vs := sumT_nodup _ _ (diffP_nodup vs) (diffP_mem vs)
theorem ordP_neg {a b : PV} (h : gtP a b) : ordP b a < 0 := by
  unfold ordP
  rcases h with h | ⟨h1, h2⟩
  · rw [if_pos h]; omega
  · rw [if_neg (by omega), if_neg (by omega)]
    unfold ordS ltS
    rw [if_pos h2]; omega
theorem leastP_none {l : Option PV} {vs : List PV} (h : leastP l vs = none) : ∀ x ∈ vs, abv l x = false := by
  have key : ∀ (vs : List PV) (a : Option PV), vs.foldl (leastF l) a = none → a = none ∧ ∀ x ∈ vs, abv l x = false := by
    intro vs
    induction vs with
    | nil => intro a h; exact ⟨h, fun x hx => by cases hx⟩
    | cons v r ih =>
      intro a h
      rw [List.foldl_cons] at h
      obtain ⟨h1, h2⟩ := ih _ h
      unfold leastF at h1
      split at h1
      · cases h1
      · rename_i hc
        subst h1
        refine ⟨rfl, fun x hx => ?_⟩
        rcases List.mem_cons.1 hx with rfl | hx
        · simpa [blw] using hc
        · exact h2 x hx
  exact (key vs none h).2
theorem leastP_min {l : Option PV} {vs : List PV} {m : PV} (h : leastP l vs = some m) : ∀ x ∈ vs, abv l x = true → ¬ gtP m x := by
  have key : ∀ (vs : List PV) (a : Option PV) (m : PV), vs.foldl (leastF l) a = some m → (∀ a0, a = some a0 → a0 = m ∨ gtP a0 m) ∧ ∀ x ∈ vs, abv l x = true → ¬ gtP m x := by
    intro vs
    induction vs with
    | nil => intro a m h; exact ⟨fun a0 h0 => .inl (by rw [List.foldl_nil] at h; rw [h] at h0; injection h0 with h0; exact h0.symm), fun x hx => by cases hx⟩
    | cons v r ih =>
      intro a m h
      rw [List.foldl_cons] at h
      obtain ⟨h1, h2⟩ := ih _ m h
      unfold leastF at h1
      by_cases hc : (abv l v && blw a v) = true
      · rw [if_pos hc] at h1
        have hv := h1 v rfl
        refine ⟨fun a0 h0 => ?_, fun x hx hxl => ?_⟩
        · subst h0
          rw [Bool.and_eq_true] at hc
          have hb : ordP v a0 < 0 := by simpa [blw] using hc.2
          have hg : gtP a0 v := by
            by_cases hg : gtP a0 v
            · exact hg
            · exfalso
              unfold gtP at hg
              unfold ordP at hb
              by_cases h3 : v.1 < a0.1
              · exact hg (.inl h3)
              · rw [if_neg h3] at hb
                by_cases h4 : a0.1 < v.1
                · rw [if_pos h4] at hb; omega
                · rw [if_neg h4] at hb
                  unfold ordS ltS at hb
                  split at hb
                  · rename_i h5; exact hg (.inr ⟨by omega, h5⟩)
                  · split at hb <;> omega
          rcases hv with rfl | hv
          · exact .inr hg
          · exact .inr (gtP_trans hg hv)
        · rcases List.mem_cons.1 hx with rfl | hx
          · intro hg
            rcases hv with rfl | hv
            · exact gtP_irrefl _ hg
            · exact gtP_irrefl _ (gtP_trans hg hv)
          · exact h2 x hx hxl
      · rw [if_neg hc] at h1
        refine ⟨h1, fun x hx hxl => ?_⟩
        rcases List.mem_cons.1 hx with rfl | hx
        · intro hg
          rw [hxl, Bool.true_and] at hc
          cases a with
          | none => simp [blw] at hc
          | some a0 =>
            have hb : ¬ ordP x a0 < 0 := by simpa [blw] using hc
            rcases h1 a0 rfl with rfl | h3
            · exact hb (ordP_neg hg)
            · exact hb (ordP_neg (gtP_trans h3 hg))
        · exact h2 x hx hxl
  exact (key vs none m h).2
end Go.Proofs.YtdlkdiaobbakiaaGreatDoor

/- Mathematics: what is sorted and then cleared of repeats is the list of the different values. -/
set_option maxRecDepth 512
set_option linter.unusedVariables false
set_option linter.unusedSimpArgs false
set_option linter.unnecessarySimpa false
namespace Go.Proofs.YtdlkdiaobbakiaaGreatDoor
open Go.RowKit

theorem pv_ext {a b : PV} (h1 : a.1 = b.1) (h2 : a.2.toList = b.2.toList) : a = b := by
  rw [ByteArray.toList_eq, ByteArray.toList_eq] at h2
  obtain ⟨a1, ⟨a2⟩⟩ := a
  obtain ⟨b1, ⟨b2⟩⟩ := b
  simp only at h1 h2
  subst h1
  rw [Array.toList_inj.1 h2]
theorem gtP_tri {a b : PV} (h : ¬ gtP a b) (hne : a ≠ b) : gtP b a := by
  unfold gtP at h ⊢
  by_cases h1 : a.1 < b.1
  · exact .inl h1
  · have h2 : a.1 = b.1 := by
      by_cases h3 : b.1 < a.1
      · exact absurd (.inl h3) h
      · omega
    refine .inr ⟨h2.symm, ?_⟩
    refine bytesLess_tri _ _ ?_ ?_
    · rw [← Bool.not_eq_true]; exact fun h3 => h (.inr ⟨h2, h3⟩)
    · exact fun h3 => hne (pv_ext h2 h3.symm)
theorem ordP_gt {a b : PV} (h : gtP a b) : 0 < ordP a b := by
  unfold ordP
  rcases h with h | ⟨h1, h2⟩
  · rw [if_neg (by omega), if_pos h]; omega
  · rw [if_neg (by omega), if_neg (by omega)]
    unfold ordS ltS eqS
    have h3 : Op.bytesLess a.2.toList b.2.toList = false := by
      rw [← Bool.not_eq_true]; intro h3
      have := bytesLess_trans _ _ _ h3 h2
      rw [bytesLess_self] at this; cases this
    have h4 : (a.2.toList == b.2.toList) = false := by
      rw [beq_eq_false_iff_ne]; intro h4
      rw [h4, bytesLess_self] at h2; cases h2
    rw [h3, h4]; decide
theorem diffs_all (vs : List PV) : ∀ (k : Nat) (out : List PV), (∀ x ∈ vs, x ∈ out ∨ abv out.getLast? x = true) → (diffs vs k out).length < out.length + k → ∀ x ∈ vs, x ∈ diffs vs k out := by
  intro k
  induction k with
  | zero => intro out _ h; exact absurd h (by unfold diffs; omega)
  | succ k ih =>
    intro out hin h
    unfold diffs at h ⊢
    cases hm : leastP out.getLast? vs with
    | none =>
      intro x hx
      rcases hin x hx with h1 | h1
      · exact h1
      · have := leastP_none hm x hx; rw [h1] at this; cases this
    | some m =>
      rw [hm] at h
      simp only at h ⊢
      refine ih _ (fun x hx => ?_) (by rw [List.length_append]; simp only [List.length_cons, List.length_nil]; omega)
      rcases hin x hx with h1 | h1
      · exact .inl (List.mem_append_left _ h1)
      · by_cases hxm : x = m
        · subst hxm; exact .inl (by simp)
        · refine .inr ?_
          have h2 := gtP_tri (leastP_min hm x hx h1) (fun e => hxm e.symm)
          rw [List.getLast?_append, List.getLast?_singleton]
          simp only [Option.some_or, abv, decide_eq_true_eq]
          exact ordP_gt h2
theorem diffP_all (vs : List PV) (h : (diffP vs).length ≤ 256) : ∀ x ∈ vs, x ∈ diffP vs := by
  unfold diffP at h ⊢
  exact diffs_all vs 257 [] (fun x _ => .inr rfl) (by simp only [List.length_nil]; omega)
theorem inc_eq : ∀ (az bs : List PV), az.Pairwise (fun a b => gtP b a) → bs.Pairwise (fun a b => gtP b a) → (∀ x, x ∈ az ↔ x ∈ bs) → az = bs := by
  intro az
  induction az with
  | nil =>
    intro bs _ _ h
    cases bs with
    | nil => rfl
    | cons b r => exact absurd ((h b).2 List.mem_cons_self) (by simp)
  | cons a r ih =>
    intro bs h1 h2 h
    cases bs with
    | nil => exact absurd ((h a).1 List.mem_cons_self) (by simp)
    | cons b s =>
      obtain ⟨p1, p2⟩ := List.pairwise_cons.1 h1
      obtain ⟨q1, q2⟩ := List.pairwise_cons.1 h2
      have hab : a = b := by
        rcases List.mem_cons.1 ((h a).1 List.mem_cons_self) with e | e
        · exact e
        · rcases List.mem_cons.1 ((h b).2 List.mem_cons_self) with e2 | e2
          · exact e2.symm
          · exact absurd (gtP_trans (q1 a e) (p1 b e2)) (gtP_irrefl a)
      subst hab
      rw [ih s p2 q2 (fun x => ?_)]
      constructor
      · intro hx
        rcases List.mem_cons.1 ((h x).1 (List.mem_cons_of_mem _ hx)) with e | e
        · subst e; exact absurd (p1 x hx) (gtP_irrefl x)
        · exact e
      · intro hx
        rcases List.mem_cons.1 ((h x).2 (List.mem_cons_of_mem _ hx)) with e | e
        · subst e; exact absurd (q1 x hx) (gtP_irrefl x)
        · exact e
theorem nodup_len : ∀ (ds vs : List PV), ds.Nodup → (∀ x ∈ ds, x ∈ vs) → ds.length ≤ vs.length := by
  intro ds
  induction ds with
  | nil => intro vs _ _; simp
  | cons d r ih =>
    intro vs hn hs
    obtain ⟨s, t, rfl⟩ := List.append_of_mem (hs d List.mem_cons_self)
    have hnd := List.nodup_cons.1 hn
    have h := ih (s ++ t) hnd.2 (fun x hx => by
      have h1 := hs x (List.mem_cons_of_mem _ hx)
      rw [List.mem_append, List.mem_cons] at h1
      rw [List.mem_append]
      rcases h1 with h1 | h1 | h1
      · exact .inl h1
      · subst h1; exact absurd hx hnd.1
      · exact .inr h1)
    simp only [List.length_append, List.length_cons] at h ⊢
    omega
theorem diffP_is {vs cs : List PV} (hi : cs.Pairwise (fun a b => gtP b a)) (hm : ∀ x, x ∈ cs ↔ x ∈ vs) (h : cs.length ≤ 256) : diffP vs = cs := by
  have h1 : (diffP vs).length ≤ cs.length := nodup_len _ _ (diffP_nodup vs) (fun x hx => (hm x).2 (diffP_mem vs x hx))
  exact inc_eq _ _ (diffP_inc vs) hi (fun x => ⟨fun hx => (hm x).2 (diffP_mem vs x hx), fun hx => diffP_all vs (by omega) x ((hm x).1 hx)⟩)
theorem diffP_big {vs cs : List PV} (hi : cs.Pairwise (fun a b => gtP b a)) (hm : ∀ x, x ∈ cs ↔ x ∈ vs) (h : 256 < cs.length) : 256 < (diffP vs).length := by
  by_cases h1 : (diffP vs).length ≤ 256
  · have := inc_eq _ _ (diffP_inc vs) hi (fun x => ⟨fun hx => (hm x).2 (diffP_mem vs x hx), fun hx => diffP_all vs h1 x ((hm x).1 hx)⟩)
    rw [this] at h1; omega
  · omega

section
variable {α : Type} [Inhabited α] [DecidableEq α] (lt : α → α → Prop)
theorem compactUpTo_inc (hT : ∀ a b c, lt a b → lt b c → lt a c) (d : Array α) (hs : ∀ i j, i < j → j < d.size → lt d[i]! d[j]! ∨ d[i]! = d[j]!) :
    ∀ m, m ≤ d.size → (Lib.compactUpTo d m).Pairwise lt ∧ (∀ x ∈ Lib.compactUpTo d m, ∃ j, j < m ∧ d[j]! = x) ∧ (∀ j, j < m → d[j]! ∈ Lib.compactUpTo d m) := by
  intro m
  induction m with
  | zero => intro _; exact ⟨by simp [Lib.compactUpTo], by simp [Lib.compactUpTo], fun j hj => by omega⟩
  | succ m ih =>
    intro hm
    obtain ⟨h1, h2, h3⟩ := ih (by omega)
    rw [Lib.compactUpTo_succ]
    by_cases hk : Lib.keeps d m = true
    · rw [if_pos hk]
      refine ⟨?_, ?_, ?_⟩
      · rw [List.pairwise_append]
        refine ⟨h1, List.pairwise_singleton _ _, fun x hx y hy => ?_⟩
        rw [List.mem_singleton] at hy
        subst hy
        obtain ⟨j, hj, rfl⟩ := h2 x hx
        have hne : d[m]! ≠ d[m - 1]! := by
          simp only [Lib.keeps, decide_eq_true_eq] at hk
          rcases hk with hk | hk
          · omega
          · exact hk
        have hl : lt d[m - 1]! d[m]! := by
          rcases hs (m - 1) m (by omega) (by omega) with h | h
          · exact h
          · exact absurd h.symm hne
        by_cases hjm : j = m - 1
        · subst hjm; exact hl
        · rcases hs j (m - 1) (by omega) (by omega) with h | h
          · exact hT _ _ _ h hl
          · rw [h]; exact hl
      · intro x hx
        rcases List.mem_append.1 hx with h | h
        · obtain ⟨j, hj, e⟩ := h2 x h; exact ⟨j, by omega, e⟩
        · rw [List.mem_singleton] at h; exact ⟨m, by omega, h.symm⟩
      · intro j hj
        by_cases e : j = m
        · subst e; simp
        · exact List.mem_append_left _ (h3 j (by omega))
    · rw [if_neg hk, List.append_nil]
      refine ⟨h1, fun x hx => ?_, fun j hj => ?_⟩
      · obtain ⟨j, hj, e⟩ := h2 x hx; exact ⟨j, by omega, e⟩
      · by_cases e : j = m
        · subst e
          simp only [Lib.keeps, decide_eq_true_eq, not_or, Classical.not_not] at hk
          rw [hk.2]
          exact h3 (j - 1) (by omega)
        · exact h3 j (by omega)
theorem compact_inc (hT : ∀ a b c, lt a b → lt b c → lt a c) (zs : List α) (hs : zs.Pairwise (fun a b => lt a b ∨ a = b)) :
    (Lib.compact zs).Pairwise lt ∧ (∀ x, x ∈ Lib.compact zs ↔ x ∈ zs) := by
  have h := compactUpTo_inc lt hT zs.toArray (fun i j hij hj => by
    have hj' : j < zs.length := by simpa using hj
    rw [getElem!_pos zs.toArray i (by simp; omega), getElem!_pos zs.toArray j hj]
    simp only [List.getElem_toArray]
    exact List.pairwise_iff_getElem.1 hs i j (by omega) hj' hij) zs.length (by simp)
  refine ⟨h.1, fun x => ⟨fun hx => ?_, fun hx => ?_⟩⟩
  · obtain ⟨j, hj, rfl⟩ := h.2.1 x hx
    rw [getElem!_pos zs.toArray j (by simpa using hj)]
    simp
  · obtain ⟨j, hj, rfl⟩ := List.getElem_of_mem hx
    have := h.2.2 j hj
    rw [getElem!_pos zs.toArray j (by simpa using hj)] at this
    unfold Lib.compact
    simpa using this
end

def dictI (xs : List Int) : List Int := Lib.compact (xs.mergeSort fun x y => decide (x ≤ y))
theorem dictI_spec (xs : List Int) : (dictI xs).Pairwise (· < ·) ∧ (∀ x, x ∈ dictI xs ↔ x ∈ xs) := by
  have h := compact_inc (fun a b : Int => a < b) (fun a b c h1 h2 => Int.lt_trans h1 h2) (xs.mergeSort fun x y => decide (x ≤ y)) (by
    have h := List.pairwise_mergeSort (le := fun x y : Int => decide (x ≤ y)) (fun a b c h1 h2 => by simp at h1 h2 ⊢; omega) (fun a b => by simp; omega) xs
    exact h.imp (fun {a b} h => by simp at h; omega))
  exact ⟨h.1, fun x => (h.2 x).trans (List.mergeSort_perm xs _).mem_iff⟩
theorem gtP_pI (x y : Int) : gtP (pI y) (pI x) ↔ x < y := by
  unfold gtP pI
  simp only [bytesLess_self, Bool.false_eq_true, and_false, or_false]
theorem pI_inj {x y : Int} (h : pI x = pI y) : x = y := by unfold pI at h; injection h
theorem dictI_inc (xs : List Int) : ((dictI xs).map pI).Pairwise (fun a b => gtP b a) := by
  rw [List.pairwise_map]
  exact (dictI_spec xs).1.imp (fun {a b} h => (gtP_pI a b).2 h)
theorem dictI_mem (xs : List Int) : ∀ x, x ∈ (dictI xs).map pI ↔ x ∈ xs.map pI := by
  intro x
  simp only [List.mem_map, (dictI_spec xs).2]
theorem dictI_diff (xs : List Int) (h : (dictI xs).length ≤ 256) : diffP (xs.map pI) = (dictI xs).map pI := diffP_is (dictI_inc xs) (dictI_mem xs) (by simpa using h)
theorem dictI_big (xs : List Int) (h : 256 < (dictI xs).length) : 256 < (diffP (xs.map pI)).length := diffP_big (dictI_inc xs) (dictI_mem xs) (by simpa using h)

def dictS (ss : List ByteArray) : List ByteArray := (Lib.compact ((ss.map (·.data.toList)).mergeSort fun x y => decide (x ≤ y))).map fun l => ⟨l.toArray⟩
theorem dictS_spec (ss : List ByteArray) : ((dictS ss).map pS).Pairwise (fun a b => gtP b a) ∧ (∀ x, x ∈ (dictS ss).map pS ↔ x ∈ ss.map pS) := by
  have h := compact_inc (fun a b : List UInt8 => a < b) (fun a b c h1 h2 => List.lt_trans h1 h2) ((ss.map (·.data.toList)).mergeSort fun x y => decide (x ≤ y)) (by
    have h := List.pairwise_mergeSort (le := fun x y : List UInt8 => decide (x ≤ y)) (fun a b c h1 h2 => by simp only [decide_eq_true_eq] at h1 h2 ⊢; exact List.le_trans h1 h2) (fun a b => by simp only [Bool.or_eq_true, decide_eq_true_eq]; exact List.le_total a b) (ss.map (·.data.toList))
    exact h.imp (fun {a b} h => by
      simp only [decide_eq_true_eq] at h
      exact List.le_iff_lt_or_eq.1 h))
  refine ⟨?_, fun x => ?_⟩
  · unfold dictS
    rw [List.pairwise_map, List.pairwise_map]
    refine h.1.imp (fun {a b} h => .inr ⟨rfl, ?_⟩)
    unfold pS
    rw [ByteArray.toList_eq, ByteArray.toList_eq, bytesLess_eq]
    simpa using h
  · unfold dictS
    simp only [List.mem_map, h.2, (List.mergeSort_perm _ _).mem_iff]
    constructor
    · rintro ⟨a, ⟨b, ⟨c, hc, rfl⟩, rfl⟩, rfl⟩
      exact ⟨c, hc, by rw [Array.toArray_toList]⟩
    · rintro ⟨a, ha, rfl⟩
      exact ⟨a, ⟨_, ⟨a, ha, rfl⟩, by rw [Array.toArray_toList]⟩, rfl⟩
theorem dictS_diff (ss : List ByteArray) (h : (dictS ss).length ≤ 256) : diffP (ss.map pS) = (dictS ss).map pS := diffP_is (dictS_spec ss).1 (dictS_spec ss).2 (by simpa using h)
theorem dictS_big (ss : List ByteArray) (h : 256 < (dictS ss).length) : 256 < (diffP (ss.map pS)).length := diffP_big (dictS_spec ss).1 (dictS_spec ss).2 (by simpa using h)
end Go.Proofs.YtdlkdiaobbakiaaGreatDoor

/- The plain answer: the payload by a dictionary. -/
set_option linter.unusedVariables false
set_option linter.unusedSimpArgs false
set_option linter.unnecessarySimpa false
set_option maxRecDepth 100000
namespace Go.Proofs.YtdlkdiaobbakiaaGreatDoor
open Go.RowKit

set_option maxHeartbeats 1000000 in
theorem need512_any (d : Nat) (w : World) (hd : d ≤ 512) : Calls Tryz.prog 63 #[.int .i64 d] w fun e w' => e = .returned (.int .i64 (needN d : Nat)) ∧ w' = w := by
  go_enter Tryz.func63, Tryz.ntmps63
  go_wp2
  go_loop [3] (fun i => ∃ k : Nat, k ≤ 9 ∧ i = .int .i64 k ∧ ∀ t, t < k → 2 ^ t < d) (fun i => 10 - (intOf i).toNat)
  case atStart => exact ⟨0, by omega, rfl, fun t h => absurd h (Nat.not_lt_zero t)⟩
  case round =>
    obtain ⟨k, hk, rfl, hall⟩ := hrel
    have HALL := hid hall
    clear hall
    obtain ⟨pw, hpw⟩ : ∃ pw, 2 ^ k = pw := ⟨_, rfl⟩
    have hpl : pw ≤ 512 := by rw [← hpw]; exact Nat.le_trans (Nat.pow_le_pow_right (by omega) hk) (by decide)
    have hk8 : pw < d → k < 9 := by
      intro h
      by_cases h8 : k = 9
      · subst h8; rw [show (2 : Nat) ^ 9 = 512 from rfl] at hpw; omega
      · omega
    have hpi : (2 : Int) ^ k = (pw : Int) := by rw [← hpw]; simp
    have HPW := hid hpw
    clear hpw
    by_cases hlt : pw < d
    · have hk7 := hk8 hlt
      have hli : (pw : Int) < (d : Int) := by omega
      clear hk8
      go_wp2
      go_round
      case rel =>
        refine ⟨k + 1, by omega, by go_num, fun t ht => ?_⟩
        by_cases htk : t = k
        · subst htk; rw [HPW.out]; exact hlt
        · exact HALL.out t (by omega)
      case measure => simp [intOf]; omega
    · have hli : ¬ (pw : Int) < (d : Int) := by omega
      clear hk8
      go_wp2
      go_ret
      exact ⟨ret_i64 (by rw [needN_eq d k (by rw [HPW.out]; omega) HALL.out]), rfl⟩
theorem needN_le512 (d : Nat) (h : d ≤ 512) : needN d ≤ 9 := by
  unfold needN; split
  · omega
  · have : (d - 1).log2 < 9 := (Nat.log2_lt (by omega)).2 (by omega)
    omega
theorem diffs_len (vs : List PV) : ∀ (k : Nat) (out : List PV), (diffs vs k out).length ≤ out.length + k := by
  intro k
  induction k with
  | zero => intro out; exact Nat.le_refl _
  | succ k ih =>
    intro out
    unfold diffs
    cases leastP out.getLast? vs with
    | none => simp only; omega
    | some m => have := ih (out ++ [m]); simp only [List.length_append, List.length_cons, List.length_nil] at this ⊢; omega
theorem diffP_len (vs : List PV) : (diffP vs).length ≤ 257 := by unfold diffP; have := diffs_len vs 257 []; simpa using this
theorem placeP_le (ds : List PV) (v : PV) : placeP ds v ≤ ds.length := List.findIdx_le_length
def lanesD (vs : List PV) : List Nat := vs.map (placeP (diffP vs))
def dictB (kd : Nat) (vs : List PV) : List Nat := (leN 4 (diffP vs).length ++ listB kd (diffP vs)) ++ le8 (packR (needN (diffP vs).length : Nat) (lanesD vs))
theorem listB_len (kd : Nat) (vs : List PV) (hl : vs.length ≤ 1048576) (hs : sumT vs ≤ 67108864) : (listB kd vs).length ≤ 75497472 := by
  unfold listB; rw [List.length_append, textB_len]
  have h1 := headB_len kd vs
  have h2 : sumS (vs.map Prod.snd) = sumT vs := rfl
  omega
set_option maxHeartbeats 16000000 in
theorem payload_dict (kd : Nat) (hkd : kd = 1 ∨ kd = 2) (wd : Int) (u : Value) (vs : List PV) (w : World) (hu : Rd w u vs.length 3 (cellsP vs)) (hl : vs.length ≤ 1048576) (hs : sumT (diffP vs) ≤ 67108864) :
    Calls Tryz.prog 38 #[.int .i64 kd, u, .int .i64 2, .int .i64 wd] w fun e w' =>
      ∃ r, e = .returned (.tuple #[r, .int .i64 (needN (diffP vs).length : Nat), .bool (decide ((diffP vs).length ≤ 256))]) ∧ OwnB w.heap.size w' r (dictB kd vs) ∧ Below w.heap.size w w' := by
  have HU := hid hu
  have HDF := hid (different_any u vs w hu hl)
  have HLL := hid (listB_len kd (diffP vs) (by have := diffP_len vs; omega) hs)
  have HDL := hid (diffP_len vs)
  have HSUM := hid hs
  obtain ⟨A1, c1, rfl, _, _, _⟩ := hu.form
  obtain ⟨R, hR⟩ : ∃ R, dictB kd vs = R := ⟨_, rfl⟩
  have HRR := hid hR
  rw [hR]
  unfold dictB lanesD at HRR
  clear hu hR hs
  generalize diffP vs = ds at *
  obtain ⟨d, hd⟩ : ∃ d, ds.length = d := ⟨_, rfl⟩
  have HD := hid hd
  simp only [hd] at HDF HRR HDL ⊢
  have HN5 := hid (fun (w2 : World) => need512_any d w2 (by have := HDL.out; omega))
  have HNL := hid (needN_le512 d (by have := HDL.out; omega))
  have hd9 : d ≤ 257 := HDL.out
  clear hd
  generalize needN d = nd at *
  go_enter Tryz.func38, Tryz.ntmps38
  go_wp2_with (go_at_call 59; refine HDF.out.mono ?_; rintro e w1 ⟨r, rfl, h1, h2⟩; obtain ⟨D1, cd1, rfl⟩ := owns3_form h1; have HDO := hid h1; have HB1 := hid h2; clear h1 h2)
  have HDR := hid (owns3_rd HDO.out)
  have HU1 := hid (HU.out.mono HB1.out)
  clear HDF HU
  go_loopw [11, 35] (fun lv i wr => ∃ t : Nat, t ≤ vs.length ∧ i = .int .i64 t ∧ Hid (wr.ownsRow w1.heap.size 68 1 lv t (u64s ((vs.map (placeP ds)).take t))) ∧ Hid (Below w1.heap.size w1 wr)) (fun _ i _ => vs.length - (intOf i).toNat)
  case atStart => exact ⟨0, by omega, rfl, hid (World.ownsRow_nil _ _ _ _), hid (brefl w1)⟩
  case round =>
    obtain ⟨t, ht, rfl, HOW, HB⟩ := hrel
    by_cases hlt : t < vs.length
    · obtain ⟨b, o, rfl, hcells⟩ := (HU1.out.mono HB.out).atP (by omega)
      obtain ⟨l0, l1, l2⟩ := hcells t hlt
      have HTK : Hid ((vs.map (placeP ds)).take (t + 1) = (vs.map (placeP ds)).take t ++ [placeP ds (vs.getD t dfP)]) := hid (by
        rw [← List.map_take, ← List.map_take, take_snoc vs dfP t hlt, List.map_append]; rfl)
      clear hcells
      generalize vs.getD t dfP = X at *
      obtain ⟨xi, xs'⟩ := X
      simp only at l1 l2 HTK
      have HPI := hid (fun (w2 : World) (h : Below w1.heap.size w1 w2) => placeIn_any (.slice D1 d cd1) ds (xi, xs') w2 (by have h9 := HDR.out.mono h; rw [HD.out]; exact h9) (by rw [HD.out]; omega))
      have hpl := placeP_le ds (xi, xs')
      rw [HD.out] at hpl
      generalize placeP ds (xi, xs') = p at *
      have hpu : IntKind.u64.wrap (p : Int) = (p : Int) := by rw [IntKind.wrap_u64]; omega
      obtain ⟨L1, cl1, rfl, _⟩ := owns_form HOW.out
      have HBA := hid ((brefl wr).alloc (Nat.le_refl _) (.cells #[.bool false, .int .i64 xi, .string xs'] 38))
      have HRW : Hid (Row (wr.alloc (.cells #[.bool false, .int .i64 xi, .string xs'] 38)) wr.heap.size 38 [.bool false, .int .i64 xi, .string xs']) := hid (by unfold Row; rw [heap_alloc_new])
      have HB4 := hid (HB.out.trans (HBA.out.mono HB.out.size))
      have HO4 := hid (owns_below HOW.out HBA.out)
      go_upto_region 8 with fail
      generalize wr.alloc (.cells #[.bool false, .int .i64 xi, .string xs'] 38) = w4 at *
      have k0 : w4.cell? ⟨wr.heap.size, 0, none⟩ = some (.bool false) := by rw [HRW.out.cell]; rfl
      have k1 : w4.cell? ⟨wr.heap.size, 1, none⟩ = some (.int .i64 xi) := by rw [HRW.out.cell]; rfl
      have k2 : w4.cell? ⟨wr.heap.size, 2, none⟩ = some (.string xs') := by rw [HRW.out.cell]; rfl
      generalize wr.heap.size = q at *
      clear l0 l1 l2
      go_wp2_with (first
        | (go_at_call 60; refine (HPI.out _ HB4.out).mono ?_; rintro e w5 ⟨rfl, hb5⟩; have HB5 := hid hb5; have HO5 := hid (owns_below HO4.out hb5); have HBW5 := hid (HB4.out.trans (hb5.mono HB4.out.size)); have HSZ5 := hid HBW5.out.size; clear hb5 k0 k1 k2)
        | (at_builtin; refine wpList_append1 rfl (.tmp 39) (.tmp 44) rfl 68 (.int .u64 0) 8 Tryz.underlying47 Tryz.info45 rfl rfl rfl HO5.out HSZ5.out (by rfl) (by unfold maxLen; omega) (by omega) ?_; intro v' w' ho hb3 _))
      go_roundw
      case rel =>
        have G1 := hid (show w'.ownsRow w1.heap.size 68 1 v' (t + 1) (u64s ((vs.map (placeP ds)).take (t + 1))) by rw [HTK.out, u64s_append]; exact ho)
        exact ⟨t + 1, by omega, by go_num, G1, hid (HBW5.out.trans hb3)⟩
      case measure => simp [intOf]; omega
    · obtain rfl : t = vs.length := by omega
      rw [List.take_of_length_le (by rw [List.length_map]; exact Nat.le_refl _)] at HOW
      have HXV : Hid (∀ x ∈ vs.map (placeP ds), x < 18446744073709551616) := hid (by
        intro x hx
        obtain ⟨y, _, rfl⟩ := List.mem_map.1 hx
        have := placeP_le ds y
        rw [HD.out] at this; omega)
      have HLM : Hid ((vs.map (placeP ds)).length = vs.length) := hid (by rw [List.length_map])
      obtain ⟨L1, cl1, rfl, _⟩ := owns_form HOW.out
      have HLR := hid (owns_rd HOW.out)
      generalize vs.map (placeP ds) = xs at *
      have HDW := hid (HDR.out.mono HB.out)
      have HBW := hid (HB1.out.trans (HB.out.mono HB1.out.size))
      clear HU1 HOW HDR HB HDO
      have hdu : IntKind.u64.wrap (d : Int) = (d : Int) := by rw [IntKind.wrap_u64]; omega
      have HN0 := hid (putNumber_any wr.heap.size (.slice none 0 0) [] d 4 wr (OwnB.nil _ _) (Nat.le_refl _) (by omega) (by omega) (by simp))
      rw [List.nil_append] at HN0
      have HHH : Hid ((leN 4 d).length = 4) := hid (leN_length 4 d)
      generalize leN 4 d = hd at *
      have HPL := hid (fun (A3 : Option Addr) (c3 : Nat) (w3 : World) (h1 : w3.ownsRow wr.heap.size 5 1 (.slice A3 hd.length c3) hd.length (u8s hd)) (h2 : Below wr.heap.size wr w3) => putList_any kd hkd wr.heap.size (.slice A3 hd.length c3) (.slice D1 d cd1) hd ds w3 h1 (Stay.low (by rw [HD.out]; have h9 := HDW.out; exact h9) h2 (Nat.le_refl _)) h2.size (by rw [HHH.out]; omega) (by rw [HD.out]; omega) HSUM.out)
      have HBL : Hid ((hd ++ listB kd ds).length ≤ 75497476) := hid (by rw [List.length_append, HHH.out]; have := HLL.out; omega)
      generalize hd ++ listB kd ds = bs at *
      have HPN := hid (fun (A3 : Option Addr) (c3 : Nat) (w3 : World) (h1 : OwnB wr.heap.size w3 (.slice A3 bs.length c3) bs) (h2 : Below wr.heap.size wr w3) => putLanes_any wr.heap.size (.slice A3 bs.length c3) (.slice L1 vs.length cl1) bs xs (nd : Int) w3 h1 (by rw [HLM.out]; exact HLR.out.mono h2) HXV.out h2.size (by have := HBL.out; omega) (by rw [HLM.out]; omega))
      rw [HRR.out] at HPN
      generalize wr = w2 at *
      have hdd : decide ((d : Int) ≤ 256) = decide (d ≤ 256) := by
        by_cases h : d ≤ 256
        · rw [decide_eq_true h, decide_eq_true (by omega)]
        · rw [decide_eq_false h, decide_eq_false (by omega)]
      have HDD := hid hdd
      clear hdd
      go_wp2_with (first
        | (go_at_call 41; refine HN0.out.mono ?_; rintro e w3 ⟨r, rfl, h1, h2, h3, h4⟩; obtain ⟨A3, c3, rfl, _, _, _, _⟩ := owns_form h1; have H1 := hid h1; have H2 := hid h2; clear h1 h2 h3 h4)
        | (go_at_call 61; refine (HPL.out _ _ _ H1.out H2.out).mono ?_; rintro e w4 ⟨r, rfl, h1, h2, h3, h4⟩; obtain ⟨A4, c4, rfl⟩ := h1.form; have K1 := hid h1; have K2 := hid (H2.out.trans h2); clear h1 h2 h3 h4)
        | (go_at_call 63; refine (HN5.out _).mono ?_; rintro e w9 ⟨rfl, hw⟩; replace hw := hw.symm; subst hw)
        | (go_at_call 62; refine (HPN.out _ _ _ K1.out K2.out).mono ?_; rintro e w5 ⟨r, rfl, h1, h2, h3, h4⟩; obtain ⟨A5, c5, rfl⟩ := h1.form; have M1 := hid h1; have M2 := hid (K2.out.trans h2); clear h1 h2 h3 h4))
      go_ret3
      refine ⟨_, by rw [← HDD.out]; rfl, owns_low M1.out HBW.out.size, HBW.out.trans (M2.out.mono HBW.out.size)⟩
end Go.Proofs.YtdlkdiaobbakiaaGreatDoor

/- The plain answer: the other payloads. -/
set_option linter.unusedVariables false
set_option linter.unusedSimpArgs false
set_option linter.unnecessarySimpa false
set_option maxRecDepth 100000
namespace Go.Proofs.YtdlkdiaobbakiaaGreatDoor
open Go.RowKit

set_option maxHeartbeats 4000000 in
theorem payload_runs (kd : Nat) (hkd : kd = 1 ∨ kd = 2) (wd : Int) (u : Value) (vs : List PV) (w : World) (hu : Rd w u vs.length 3 (cellsP vs)) (hl : vs.length ≤ 1048576) (hs : sumT vs ≤ 67108864) :
    Calls Tryz.prog 38 #[.int .i64 kd, u, .int .i64 3, .int .i64 wd] w fun e w' =>
      ∃ r, e = .returned (.tuple #[r, .int .i64 0, .bool true]) ∧ OwnB w.heap.size w' r (runsB kd vs) ∧ Below w.heap.size w w' := by
  have HR := hid (runsOf_any kd hkd u vs w hu hl hs)
  obtain ⟨A1, c1, rfl, _, _, _⟩ := hu.form
  generalize runsB kd vs = R at *
  clear hu hs
  go_enter Tryz.func38, Tryz.ntmps38
  go_wp2_with (go_at_call 64; refine HR.out.mono ?_; rintro e w1 ⟨r, rfl, h1, h2⟩; obtain ⟨A3, c3, rfl⟩ := h1.form; have H1 := hid h1; have H2 := hid h2; clear h1 h2)
  go_ret3
  exact ⟨_, rfl, H1.out, H2.out⟩
set_option maxHeartbeats 4000000 in
theorem payload_plain (kd : Nat) (hkd : kd = 1 ∨ kd = 2) (wd : Int) (u : Value) (vs : List PV) (w : World) (hu : Rd w u vs.length 3 (cellsP vs)) (hl : vs.length ≤ 1048576) (hs : sumT vs ≤ 67108864) :
    Calls Tryz.prog 38 #[.int .i64 kd, u, .int .i64 1, .int .i64 wd] w fun e w' =>
      ∃ r, e = .returned (.tuple #[r, .int .i64 0, .bool true]) ∧ OwnB w.heap.size w' r (listB kd vs) ∧ Below w.heap.size w w' := by
  have HR := hid (putList_any kd hkd w.heap.size (.slice none 0 0) u [] vs w (OwnB.nil _ _) (Stay.low hu (brefl w) (Nat.le_refl _)) (Nat.le_refl _) (by simp) hl hs)
  rw [List.nil_append] at HR
  obtain ⟨A1, c1, rfl, _, _, _⟩ := hu.form
  generalize listB kd vs = R at *
  clear hu hs
  go_enter Tryz.func38, Tryz.ntmps38
  go_wp2_with (go_at_call 61; refine HR.out.mono ?_; rintro e w1 ⟨r, rfl, h1, h2, h3, h4⟩; obtain ⟨A3, c3, rfl⟩ := h1.form; have H1 := hid h1; have H2 := hid h2; clear h1 h2 h3 h4)
  go_ret3
  exact ⟨_, rfl, H1.out, H2.out⟩

/-- the lanes of integers less a base -/
def lanesF (b : Nat) (vs : List PV) : List Nat := vs.map fun v => (toU v.1 + 18446744073709551616 - b) % 18446744073709551616
def frameB (wd : Int) (vs : List PV) : List Nat := leN 8 (toU (minP vs).1) ++ le8 (packR wd (lanesF (toU (minP vs).1) vs))
def frameOk (wd : Int) (vs : List PV) : Bool := okVals wd (lanesF (toU (minP vs).1) vs)
set_option maxHeartbeats 8000000 in
theorem payload_frame (kd : Nat) (wd : Int) (u : Value) (vs : List PV) (w : World) (hu : Rd w u vs.length 3 (cellsP vs)) (hl : vs.length ≤ 1048576) :
    Calls Tryz.prog 38 #[.int .i64 kd, u, .int .i64 4, .int .i64 wd] w fun e w' =>
      ∃ r, e = .returned (.tuple #[r, .int .i64 wd, .bool (frameOk wd vs)]) ∧ OwnB w.heap.size w' r (frameB wd vs) ∧ Below w.heap.size w w' := by
  have HU := hid hu
  have HEX := hid (extremes_any u vs w hu hl)
  obtain ⟨A1, c1, rfl, _, _, _⟩ := hu.form
  obtain ⟨R, hR⟩ : ∃ R, frameB wd vs = R := ⟨_, rfl⟩
  obtain ⟨ok, hok⟩ : ∃ ok, frameOk wd vs = ok := ⟨_, rfl⟩
  have HRR := hid hR
  have HOK := hid hok
  rw [hR, hok]
  unfold frameB at HRR
  unfold frameOk at HOK
  clear hu hR hok
  generalize minP vs = m at *
  generalize maxP vs = M at *
  obtain ⟨mi, ms⟩ := m
  obtain ⟨Mi, Ms⟩ := M
  simp only at HRR HOK
  have hbu := wrap_toU mi
  have hbl := toU_lt mi
  generalize toU mi = bu at *
  go_enter Tryz.func38, Tryz.ntmps38
  unfold pva at HEX
  simp only at HEX
  go_upto_region 17 with (go_at_call 65; refine HEX.out.mono ?_; rintro e w1 ⟨rfl, h2⟩; have HB1 := hid h2; clear h2)
  have HB2a := hid (((brefl w1).alloc (Nat.le_refl _) (.cells #[.bool false, .int .i64 mi, .string ms] 38)).alloc (by simp) (.cells #[.bool false, .int .i64 Mi, .string Ms] 38))
  have HRL : Hid (Row ((w1.alloc (.cells #[.bool false, .int .i64 mi, .string ms] 38)).alloc (.cells #[.bool false, .int .i64 Mi, .string Ms] 38)) w1.heap.size 38 [.bool false, .int .i64 mi, .string ms]) := hid (by
    have h1 : Row (w1.alloc (.cells #[.bool false, .int .i64 mi, .string ms] 38)) w1.heap.size 38 [.bool false, .int .i64 mi, .string ms] := by unfold Row; rw [heap_alloc_new]
    exact h1.mono ((brefl _).alloc (Nat.le_refl _) _))
  generalize (w1.alloc (.cells #[.bool false, .int .i64 mi, .string ms] 38)).alloc (.cells #[.bool false, .int .i64 Mi, .string Ms] 38) = w2 at *
  have HU2 := hid ((HU.out.mono HB1.out).mono HB2a.out)
  have HBW2 := hid (HB1.out.trans (HB2a.out.mono HB1.out.size))
  generalize w1.heap.size = s at *
  clear HU HEX HB2a
  go_wp2_with fail
  go_loopw [11, 84] (fun lv i wr => ∃ t : Nat, t ≤ vs.length ∧ i = .int .i64 t ∧ Hid (wr.ownsRow w2.heap.size 68 1 lv t (u64s ((lanesF bu vs).take t))) ∧ Hid (Below w2.heap.size w2 wr)) (fun _ i _ => vs.length - (intOf i).toNat)
  case atStart => exact ⟨0, by omega, rfl, hid (World.ownsRow_nil _ _ _ _), hid (brefl w2)⟩
  case round =>
    obtain ⟨t, ht, rfl, HOW, HB⟩ := hrel
    by_cases hlt : t < vs.length
    · obtain ⟨b, o, rfl, hcells⟩ := (HU2.out.mono HB.out).atP (by omega)
      obtain ⟨l0, l1, l2⟩ := hcells t hlt
      have HTK : Hid ((lanesF bu vs).take (t + 1) = (lanesF bu vs).take t ++ [(toU (vs.getD t dfP).1 + 18446744073709551616 - bu) % 18446744073709551616]) := hid (by
        unfold lanesF
        rw [← List.map_take, ← List.map_take, take_snoc vs dfP t hlt, List.map_append]; rfl)
      clear hcells
      generalize vs.getD t dfP = X at *
      obtain ⟨xi, xs'⟩ := X
      simp only at l1 l2 HTK
      have hxu := wrap_toU xi
      have hxl := toU_lt xi
      generalize toU xi = x at *
      obtain ⟨ln, hln⟩ : ∃ ln, (x + 18446744073709551616 - bu) % 18446744073709551616 = ln := ⟨_, rfl⟩
      rw [hln] at HTK
      have hws2 : ((x : Int) - (bu : Int)) % 18446744073709551616 = (ln : Int) := by omega
      have hws1 : IntKind.u64.wrap ((x : Int) - (bu : Int)) = (ln : Int) := by rw [IntKind.wrap_u64]; exact hws2
      clear hln
      obtain ⟨L1, cl1, rfl, _⟩ := owns_form HOW.out
      have HBA := hid ((brefl wr).alloc (Nat.le_refl _) (.cells #[.bool false, .int .i64 xi, .string xs'] 38))
      have HRW : Hid (Row (wr.alloc (.cells #[.bool false, .int .i64 xi, .string xs'] 38)) wr.heap.size 38 [.bool false, .int .i64 xi, .string xs']) := hid (by unfold Row; rw [heap_alloc_new])
      have HB4 := hid (HB.out.trans (HBA.out.mono HB.out.size))
      have HO4 := hid (owns_below HOW.out HBA.out)
      have HRL4 := hid (HRL.out.mono HB4.out)
      have HSZ4 := hid HB4.out.size
      go_upto_region 20 with fail
      generalize wr.alloc (.cells #[.bool false, .int .i64 xi, .string xs'] 38) = w4 at *
      have k1 : w4.cell? ⟨wr.heap.size, 1, none⟩ = some (.int .i64 xi) := by rw [HRW.out.cell]; rfl
      have m1 : w4.cell? ⟨s, 1, none⟩ = some (.int .i64 mi) := by rw [HRL4.out.cell]; rfl
      generalize wr.heap.size = q at *
      clear l0 l1 l2
      go_wp2_with (at_builtin; refine wpList_append1 rfl (.tmp 88) (.tmp 96) rfl 68 (.int .u64 0) 8 Tryz.underlying47 Tryz.info45 rfl rfl rfl HO4.out HSZ4.out (by rfl) (by unfold maxLen; omega) (by omega) ?_; intro v' w' ho hb3 _)
      go_roundw
      case rel =>
        have G1 := hid (show w'.ownsRow w2.heap.size 68 1 v' (t + 1) (u64s ((lanesF bu vs).take (t + 1))) by rw [HTK.out, u64s_append]; exact ho)
        exact ⟨t + 1, by omega, by go_num, G1, hid (HB4.out.trans hb3)⟩
      case measure => simp [intOf]; omega
    · obtain rfl : t = vs.length := by omega
      have HLM : Hid ((lanesF bu vs).length = vs.length) := hid (by unfold lanesF; rw [List.length_map])
      rw [List.take_of_length_le (by rw [HLM.out]; exact Nat.le_refl _)] at HOW
      have HXV : Hid (∀ x ∈ lanesF bu vs, x < 18446744073709551616) := hid (by
        intro x hx
        obtain ⟨y, _, rfl⟩ := List.mem_map.1 hx
        exact Nat.mod_lt _ (by decide))
      obtain ⟨L1, cl1, rfl, _⟩ := owns_form HOW.out
      have HLR := hid (owns_rd HOW.out)
      generalize lanesF bu vs = xs at *
      have HRLW := hid (HRL.out.mono HB.out)
      have HBW := hid (HBW2.out.trans (HB.out.mono HBW2.out.size))
      clear HU2 HOW HB HRL
      have m1 : wr.cell? ⟨s, 1, none⟩ = some (.int .i64 mi) := by rw [HRLW.out.cell]; rfl
      have HN0 := hid (putNumber_any wr.heap.size (.slice none 0 0) [] bu 8 wr (OwnB.nil _ _) (Nat.le_refl _) (by omega) (by omega) (by simp))
      rw [List.nil_append] at HN0
      have HHH : Hid ((leN 8 bu).length = 8) := hid (leN_length 8 bu)
      generalize leN 8 bu = hd at *
      have HPN := hid (fun (A3 : Option Addr) (c3 : Nat) (w3 : World) (h1 : OwnB wr.heap.size w3 (.slice A3 hd.length c3) hd) (h2 : Below wr.heap.size wr w3) => putLanes_any wr.heap.size (.slice A3 hd.length c3) (.slice L1 vs.length cl1) hd xs wd w3 h1 (by rw [HLM.out]; exact HLR.out.mono h2) HXV.out h2.size (by rw [HHH.out]; omega) (by rw [HLM.out]; omega))
      rw [HRR.out, HOK.out] at HPN
      generalize wr = w3 at *
      go_wp2_with (first
        | (go_at_call 41; refine HN0.out.mono ?_; rintro e w4 ⟨r, rfl, h1, h2, h3, h4⟩; obtain ⟨A3, c3, rfl, _, _, _, _⟩ := owns_form h1; have H1 := hid h1; have H2 := hid h2; clear h1 h2 h3 h4 m1)
        | (go_at_call 62; refine (HPN.out _ _ _ H1.out H2.out).mono ?_; rintro e w5 ⟨r, rfl, h1, h2, h3, h4⟩; obtain ⟨A5, c5, rfl⟩ := h1.form; have M1 := hid h1; have M2 := hid (H2.out.trans h2); clear h1 h2 h3 h4))
      go_ret3
      exact ⟨_, rfl, owns_low M1.out HBW.out.size, HBW.out.trans (M2.out.mono HBW.out.size)⟩
end Go.Proofs.YtdlkdiaobbakiaaGreatDoor

/- The plain answer: packed values. -/
set_option linter.unusedVariables false
set_option linter.unusedSimpArgs false
set_option linter.unnecessarySimpa false
set_option maxRecDepth 100000
namespace Go.Proofs.YtdlkdiaobbakiaaGreatDoor
open Go.RowKit

def lanesK (vs : List PV) : List Nat := vs.map fun v => toU v.1
def packedB (wd : Int) (vs : List PV) : List Nat := le8 (packR wd (lanesK vs))
def packedOk (wd : Int) (vs : List PV) : Bool := vs.all (fun v => decide (0 ≤ v.1)) && okVals wd (lanesK vs)
set_option maxHeartbeats 8000000 in
theorem payload_packed (kd : Nat) (wd : Int) (u : Value) (vs : List PV) (w : World) (hu : Rd w u vs.length 3 (cellsP vs)) (hl : vs.length ≤ 1048576) :
    Calls Tryz.prog 38 #[.int .i64 kd, u, .int .i64 5, .int .i64 wd] w fun e w' =>
      ∃ (r : Value) (wo : Int), e = .returned (.tuple #[r, .int .i64 wo, .bool (packedOk wd vs)]) ∧ (∃ A n c, r = .slice A n c) ∧ (packedOk wd vs = true → wo = wd ∧ OwnB w.heap.size w' r (packedB wd vs)) ∧ Below w.heap.size w w' := by
  have HU := hid hu
  obtain ⟨A1, c1, rfl, _, _, _⟩ := hu.form
  obtain ⟨R, hR⟩ : ∃ R, packedB wd vs = R := ⟨_, rfl⟩
  obtain ⟨ok, hok⟩ : ∃ ok, packedOk wd vs = ok := ⟨_, rfl⟩
  have HRR := hid hR
  have HOK := hid hok
  rw [hR, hok]
  unfold packedB at HRR
  unfold packedOk at HOK
  clear hu hR hok
  go_enter Tryz.func38, Tryz.ntmps38
  go_wp2_with fail
  go_loopw [11, 116] (fun lv i wr => ∃ t : Nat, t ≤ vs.length ∧ i = .int .i64 t ∧ Hid ((vs.take t).all (fun v => decide (0 ≤ v.1)) = true) ∧ Hid (wr.ownsRow w.heap.size 68 1 lv t (u64s ((lanesK vs).take t))) ∧ Hid (Below w.heap.size w wr)) (fun _ i _ => vs.length - (intOf i).toNat)
  case atStart => exact ⟨0, by omega, rfl, hid rfl, hid (World.ownsRow_nil _ _ _ _), hid (brefl w)⟩
  case round =>
    obtain ⟨t, ht, rfl, HAL, HOW, HB⟩ := hrel
    by_cases hlt : t < vs.length
    · obtain ⟨b, o, rfl, hcells⟩ := (HU.out.mono HB.out).atP (by omega)
      obtain ⟨l0, l1, l2⟩ := hcells t hlt
      have HTK : Hid ((lanesK vs).take (t + 1) = (lanesK vs).take t ++ [toU (vs.getD t dfP).1]) := hid (by
        unfold lanesK
        rw [← List.map_take, ← List.map_take, take_snoc vs dfP t hlt, List.map_append]; rfl)
      have HTA : Hid ((vs.take (t + 1)).all (fun v => decide (0 ≤ v.1)) = ((vs.take t).all (fun v => decide (0 ≤ v.1)) && decide (0 ≤ (vs.getD t dfP).1))) := hid (by
        rw [take_snoc vs dfP t hlt, List.all_append]; simp)
      have HNEG : Hid ((vs.getD t dfP).1 < 0 → vs.all (fun v => decide (0 ≤ v.1)) = false) := hid (fun h => by
        rw [← Bool.not_eq_true, List.all_eq_true]
        intro h2
        have h3 := h2 (vs.getD t dfP) (by simp [List.getD, List.getElem?_eq_getElem hlt])
        simp only [decide_eq_true_eq] at h3
        omega)
      clear hcells
      generalize vs.getD t dfP = X at *
      obtain ⟨xi, xs'⟩ := X
      simp only at l1 l2 HTK HTA HNEG
      have hxu := wrap_toU xi
      have hxl := toU_lt xi
      generalize toU xi = x at *
      obtain ⟨L1, cl1, rfl, _⟩ := owns_form HOW.out
      have HBA := hid ((brefl wr).alloc (Nat.le_refl _) (.cells #[.bool false, .int .i64 xi, .string xs'] 38))
      have HRW : Hid (Row (wr.alloc (.cells #[.bool false, .int .i64 xi, .string xs'] 38)) wr.heap.size 38 [.bool false, .int .i64 xi, .string xs']) := hid (by unfold Row; rw [heap_alloc_new])
      have HB4 := hid (HB.out.trans (HBA.out.mono HB.out.size))
      have HO4 := hid (owns_below HOW.out HBA.out)
      have HSZ4 := hid HB4.out.size
      go_upto_region 28 with fail
      generalize wr.alloc (.cells #[.bool false, .int .i64 xi, .string xs'] 38) = w4 at *
      have k1 : w4.cell? ⟨wr.heap.size, 1, none⟩ = some (.int .i64 xi) := by rw [HRW.out.cell]; rfl
      generalize wr.heap.size = q at *
      clear l0 l1 l2
      by_cases hneg : xi < 0
      · have HF := hid (show ok = false by rw [← HOK.out, HNEG.out hneg]; rfl)
        go_wp2_with fail
        go_ret3
        exact ⟨_, _, by rw [HF.out]; rfl, ⟨_, _, _, rfl⟩, fun h => (by rw [HF.out] at h; cases h), HB4.out⟩
      · have HT2 := hid (show (vs.take (t + 1)).all (fun v => decide (0 ≤ v.1)) = true by rw [HTA.out, HAL.out]; simp; omega)
        go_wp2_with (at_builtin; refine wpList_append1 rfl (.tmp 123) (.tmp 127) rfl 68 (.int .u64 0) 8 Tryz.underlying47 Tryz.info45 rfl rfl rfl HO4.out HSZ4.out (by rfl) (by unfold maxLen; omega) (by omega) ?_; intro v' w' ho hb3 _)
        go_roundw
        case rel =>
          have G1 := hid (show w'.ownsRow w.heap.size 68 1 v' (t + 1) (u64s ((lanesK vs).take (t + 1))) by rw [HTK.out, u64s_append]; exact ho)
          exact ⟨t + 1, by omega, by go_num, HT2, G1, hid (HB4.out.trans hb3)⟩
        case measure => simp [intOf]; omega
    · obtain rfl : t = vs.length := by omega
      rw [List.take_length] at HAL
      rw [HAL.out, Bool.true_and] at HOK
      have HLM : Hid ((lanesK vs).length = vs.length) := hid (by unfold lanesK; rw [List.length_map])
      rw [List.take_of_length_le (by rw [HLM.out]; exact Nat.le_refl _)] at HOW
      have HXV : Hid (∀ x ∈ lanesK vs, x < 18446744073709551616) := hid (by
        intro x hx
        obtain ⟨y, _, rfl⟩ := List.mem_map.1 hx
        exact toU_lt _)
      obtain ⟨L1, cl1, rfl, _⟩ := owns_form HOW.out
      have HLR := hid (owns_rd HOW.out)
      generalize lanesK vs = xs at *
      have HPN := hid (putLanes_any wr.heap.size (.slice none 0 0) (.slice L1 vs.length cl1) [] xs wd wr (OwnB.nil _ _) (by rw [HLM.out]; exact HLR.out) HXV.out (Nat.le_refl _) (by simp) (by rw [HLM.out]; omega))
      rw [List.nil_append, HRR.out, HOK.out] at HPN
      generalize wr = w3 at *
      go_wp2_with (go_at_call 62; refine HPN.out.mono ?_; rintro e w5 ⟨r, rfl, h1, h2, h3, h4⟩; obtain ⟨A5, c5, rfl⟩ := h1.form; have M1 := hid h1; have M2 := hid h2; clear h1 h2 h3 h4)
      go_ret3
      exact ⟨_, _, rfl, ⟨_, _, _, rfl⟩, fun _ => ⟨rfl, owns_low M1.out HB.out.size⟩, HB.out.trans (M2.out.mono HB.out.size)⟩

/-! ### whatever the codec -/
def payB (kd code : Nat) (wd : Int) (vs : List PV) : List Nat :=
  if code = 2 then dictB kd vs else if code = 3 then runsB kd vs else if code = 4 then frameB wd vs else if code = 5 then packedB wd vs else listB kd vs
def payOk (code : Nat) (wd : Int) (vs : List PV) : Bool :=
  if code = 2 then decide ((diffP vs).length ≤ 256) else if code = 4 then frameOk wd vs else if code = 5 then packedOk wd vs else true
def payW (code : Nat) (wd : Int) (vs : List PV) : Int :=
  if code = 2 then (needN (diffP vs).length : Nat) else if code = 4 ∨ code = 5 then wd else 0
theorem payload_any (kd code : Nat) (hkd : kd = 1 ∨ kd = 2) (hc : 1 ≤ code ∧ code ≤ 5) (wd : Int) (u : Value) (vs : List PV) (w : World) (hu : Rd w u vs.length 3 (cellsP vs)) (hl : vs.length ≤ 1048576) (hs : sumT vs ≤ 67108864) (hsd : sumT (diffP vs) ≤ 67108864) :
    Calls Tryz.prog 38 #[.int .i64 kd, u, .int .i64 code, .int .i64 wd] w fun e w' =>
      ∃ (r : Value) (wo : Int), e = .returned (.tuple #[r, .int .i64 wo, .bool (payOk code wd vs)]) ∧ (∃ A n c, r = .slice A n c) ∧ (payOk code wd vs = true → wo = payW code wd vs ∧ OwnB w.heap.size w' r (payB kd code wd vs)) ∧ Below w.heap.size w w' := by
  have hcc : code = 1 ∨ code = 2 ∨ code = 3 ∨ code = 4 ∨ code = 5 := by omega
  rcases hcc with rfl | rfl | rfl | rfl | rfl
  · refine (payload_plain kd hkd wd u vs w hu hl hs).mono ?_
    rintro e w' ⟨r, rfl, h1, h2⟩
    obtain ⟨A, c, rfl⟩ := h1.form
    exact ⟨_, _, rfl, ⟨_, _, _, rfl⟩, fun _ => ⟨rfl, h1⟩, h2⟩
  · refine (payload_dict kd hkd wd u vs w hu hl hsd).mono ?_
    rintro e w' ⟨r, rfl, h1, h2⟩
    obtain ⟨A, c, rfl⟩ := h1.form
    exact ⟨_, _, rfl, ⟨_, _, _, rfl⟩, fun _ => ⟨rfl, h1⟩, h2⟩
  · refine (payload_runs kd hkd wd u vs w hu hl hs).mono ?_
    rintro e w' ⟨r, rfl, h1, h2⟩
    obtain ⟨A, c, rfl⟩ := h1.form
    exact ⟨_, _, rfl, ⟨_, _, _, rfl⟩, fun _ => ⟨rfl, h1⟩, h2⟩
  · refine (payload_frame kd wd u vs w hu hl).mono ?_
    rintro e w' ⟨r, rfl, h1, h2⟩
    obtain ⟨A, c, rfl⟩ := h1.form
    exact ⟨_, _, rfl, ⟨_, _, _, rfl⟩, fun _ => ⟨rfl, h1⟩, h2⟩
  · refine (payload_packed kd wd u vs w hu hl).mono ?_
    rintro e w' ⟨r, wo, rfl, h1, h2, h3⟩
    exact ⟨r, wo, rfl, h1, h2, h3⟩
end Go.Proofs.YtdlkdiaobbakiaaGreatDoor
