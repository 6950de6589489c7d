/- The Part of a list of values: what it tells, that it is one, that two are put together. -/
import Derived.Test.YthonbfojpbfmgaaGreatDoorLawfoldsplitB26
import Derived.Test.YthonbfojpbfmgaaGreatDoorLawfoldsplitB17
import Derived.Test.YthonbfojpbfmgaaGreatDoorLawfoldsplitB21
import Derived.Test.YthonbfojpbfmgaaGreatDoorLawfoldsplitB22
import Derived.Shelf.Bits.Mul64
import Derived.Test.YthonbfojpbfmgaaGreatDoorLawfoldsplitB24
import Derived.Test.YthonbfojpbfmgaaGreatDoorLawfoldsplitB13
set_option linter.unusedVariables false
set_option linter.unusedSimpArgs false
set_option linter.unnecessarySimpa false
namespace Go.Proofs.YthonbfojpbfmgaaGreatDoor
open Go.RowKit

theorem ltB_asymm {a b : ByteArray} (h : ltB a b = true) : ltB b a = false := by
  cases h2 : ltB b a with
  | false => rfl
  | true =>
    have h3 := bytesLess_trans _ _ _ h h2
    rw [bytesLess_self] at h3; cases h3
theorem ltB_tri {a b : ByteArray} (h : ltB a b = false) (h2 : ltB b a = false) : a = b := by
  by_cases e : a.toList = b.toList
  · exact ba_ext e
  · have := bytesLess_tri _ _ h e
    have h3 : ltB b a = true := this
    rw [h2] at h3; cases h3
theorem lessC_iff (a b : C3) : lessC a b = true ↔ a.i < b.i ∨ (a.i = b.i ∧ ltB a.s b.s = true) := by unfold lessC; simp
theorem lessC_niff (a b : C3) : lessC a b = false ↔ b.i < a.i ∨ (a.i = b.i ∧ ltB a.s b.s = false) := by
  unfold lessC
  cases ltB a.s b.s
  · simp; omega
  · simp; omega
theorem lessC_lt_le {a b c : C3} (h1 : lessC a b = true) (h2 : lessC c b = false) : lessC a c = true := by
  rw [lessC_iff] at *
  rw [lessC_niff] at h2
  rcases h1 with h1 | ⟨h1, h3⟩ <;> rcases h2 with h2 | ⟨h2, h4⟩
  · left; omega
  · left; omega
  · left; omega
  · right
    refine ⟨by omega, ?_⟩
    cases h5 : ltB b.s c.s with
    | true => exact bytesLess_trans _ _ _ h3 h5
    | false => rw [ltB_tri h4 h5]; exact h3
theorem lessC_irrefl (a : C3) : lessC a a = false := by rw [lessC_niff]; right; exact ⟨rfl, bytesLess_self _⟩
theorem lessC_asymm {a b : C3} (h : lessC a b = true) : lessC b a = false := by
  rw [lessC_iff] at h
  rw [lessC_niff]
  rcases h with h | ⟨h, h2⟩
  · left; exact h
  · right; exact ⟨h.symm, ltB_asymm h2⟩
theorem lessC_le_trans {a b c : C3} (h1 : lessC b a = false) (h2 : lessC c b = false) : lessC c a = false := by
  cases h : lessC c a with
  | false => rfl
  | true => rw [lessC_lt_le h h1] at h2; exact h2
theorem lessC_antisymm {a b : C3} (h1 : lessC a b = false) (h2 : lessC b a = false) (hn : a.n = b.n) : a = b := by
  obtain ⟨an, ai, sa⟩ := a
  obtain ⟨bn, bi, sb⟩ := b
  rw [lessC_niff] at h1 h2
  simp only at h1 h2 hn
  have e : ai = bi := by omega
  have e1 : ltB sa sb = false := by rcases h1 with h1 | ⟨_, h1⟩; (omega); exact h1
  have e2 : ltB sb sa = false := by rcases h2 with h2 | ⟨_, h2⟩; (omega); exact h2
  rw [ltB_tri e1 e2, e, hn]

def nilP : P9 := ⟨0, 0, 0, C3.df, C3.df⟩
def sumI : List C3 → Int
  | [] => 0
  | c :: r => c.i + sumI r
theorem sumI_append (a b : List C3) : sumI (a ++ b) = sumI a + sumI b := by
  induction a with
  | nil => simp [sumI]
  | cons c r ih => simp only [List.cons_append, sumI, ih]; omega
theorem sumI_perm {a b : List C3} (h : a.Perm b) : sumI a = sumI b := by
  induction h with
  | nil => rfl
  | cons x _ ih => simp only [sumI, ih]
  | swap x y l => simp only [sumI]; omega
  | trans _ _ h1 h2 => exact h1.trans h2
theorem sumI_bound (l : List C3) (h : ∀ c ∈ l, -9223372036854775808 ≤ c.i ∧ c.i ≤ 9223372036854775807) : -9223372036854775808 * (l.length : Int) ≤ sumI l ∧ sumI l ≤ 9223372036854775808 * (l.length : Int) := by
  induction l with
  | nil => simp [sumI]
  | cons c r ih =>
    have h1 := ih (fun x hx => h x (List.mem_cons_of_mem _ hx))
    have h2 := h c (List.mem_cons_self ..)
    simp only [sumI, List.length_cons]
    omega
theorem sumI_replicate (n : Nat) (c : C3) : sumI (List.replicate n c) = n * c.i := by
  induction n with
  | zero => simp [sumI]
  | succ n ih =>
    rw [List.replicate_succ, sumI, ih, show ((n + 1 : Nat) : Int) = (n : Int) + 1 by omega, Int.add_mul]
    omega
/-- p tells of the values vs -/
structure IsPart (vs : List C3) (p : P9) : Prop where
  nil : vs = [] → p = nilP
  ct : p.ct = (vs.length : Int)
  sm : p.hi * 18446744073709551616 + p.lo = sumI vs
  lo : p.lo < 18446744073709551616
  mnm : vs ≠ [] → p.mn ∈ vs
  mxm : vs ≠ [] → p.mx ∈ vs
  mn : ∀ c ∈ vs, lessC c p.mn = false
  mx : ∀ c ∈ vs, lessC p.mx c = false
theorem IsPart.zero : IsPart [] nilP := ⟨fun _ => rfl, rfl, rfl, by decide, fun h => absurd rfl h, fun h => absurd rfl h, fun _ h => (by cases h), fun _ h => (by cases h)⟩
theorem IsPart.unique {vs ws : List C3} {p q : P9} (hp : IsPart vs p) (hq : IsPart ws q) (hvw : vs.Perm ws) (hn : ∀ c ∈ vs, c.n = false) : p = q := by
  by_cases e : vs = []
  · have e2 : ws = [] := by rw [e] at hvw; exact List.Perm.eq_nil hvw.symm
    rw [hp.nil e, hq.nil e2]
  · have e2 : ws ≠ [] := fun h => e (by rw [h] at hvw; exact List.Perm.eq_nil hvw)
    have h1 := hp.sm
    have h2 := hq.sm
    have h3 := hp.lo
    have h4 := hq.lo
    have h5 := hp.ct
    have h6 := hq.ct
    have h7 := hvw.length_eq
    rw [sumI_perm hvw] at h1
    have m1 : p.mn = q.mn := lessC_antisymm (hq.mn _ (hvw.mem_iff.1 (hp.mnm e))) (hp.mn _ (hvw.mem_iff.2 (hq.mnm e2))) (by rw [hn _ (hp.mnm e), hn _ (hvw.mem_iff.2 (hq.mnm e2))])
    have m2 : p.mx = q.mx := lessC_antisymm (hp.mx _ (hvw.mem_iff.2 (hq.mxm e2))) (hq.mx _ (hvw.mem_iff.1 (hp.mxm e))) (by rw [hn _ (hp.mxm e), hn _ (hvw.mem_iff.2 (hq.mxm e2))])
    obtain ⟨a, b, c, d, f⟩ := p
    obtain ⟨a', b', c', d', f'⟩ := q
    simp only at *
    have x1 : a = a' := by omega
    have x2 : b = b' := by omega
    have x3 : c = c' := by omega
    subst x1 x2 x3 m1 m2
    rfl
theorem IsPart.merge {vs ws : List C3} {p q : P9} (hp : IsPart vs p) (hq : IsPart ws q) (hl : vs.length + ws.length ≤ 1048576) (hv : ∀ c ∈ vs ++ ws, -9223372036854775808 ≤ c.i ∧ c.i ≤ 9223372036854775807) : IsPart (vs ++ ws) (mergeP p q) := by
  have hb := sumI_bound (vs ++ ws) hv
  have hs := sumI_append vs ws
  have h1 := hp.sm
  have h2 := hq.sm
  have h3 := hp.lo
  have h4 := hq.lo
  have h5 := hp.ct
  have h6 := hq.ct
  have hlen : (vs ++ ws).length = vs.length + ws.length := List.length_append
  have hcw : wrap64 (p.ct + q.ct) = p.ct + q.ct := by unfold wrap64; omega
  have hhw : wrap64 (p.hi + q.hi + ((p.lo + q.lo) / 18446744073709551616 : Nat)) = p.hi + q.hi + ((p.lo + q.lo) / 18446744073709551616 : Nat) := by unfold wrap64; omega
  have hpz : p.ct = 0 ↔ vs = [] := by rw [h5, ← List.length_eq_zero_iff]; omega
  have hqz : q.ct = 0 ↔ ws = [] := by rw [h6, ← List.length_eq_zero_iff]; omega
  constructor
  · intro h
    obtain ⟨e1, e2⟩ := List.append_eq_nil_iff.1 h
    rw [hp.nil e1, hq.nil e2]
    simp [mergeP, nilP, pickMn, pickMx, wrap64]
  · show wrap64 (p.ct + q.ct) = _
    rw [hcw]; omega
  · show wrap64 (p.hi + q.hi + ((p.lo + q.lo) / 18446744073709551616 : Nat)) * 18446744073709551616 + ((p.lo + q.lo) % 18446744073709551616 : Nat) = _
    rw [hhw]; omega
  · exact Nat.mod_lt _ (by decide)
  · intro h
    show pickMn p q ∈ _
    unfold pickMn
    split
    · rename_i h0
      have := hpz.1 h0
      subst this
      exact hq.mnm h
    · split
      · rename_i h0 h9
        have := hqz.1 h9
        subst this
        rw [List.append_nil] at *
        exact hp.mnm h
      · rename_i h0 h9
        split
        · exact List.mem_append_right _ (hq.mnm (fun e => h9 (hqz.2 e)))
        · exact List.mem_append_left _ (hp.mnm (fun e => h0 (hpz.2 e)))
  · intro h
    show pickMx p q ∈ _
    unfold pickMx
    split
    · rename_i h0
      have := hpz.1 h0
      subst this
      exact hq.mxm h
    · split
      · rename_i h0 h9
        have := hqz.1 h9
        subst this
        rw [List.append_nil] at *
        exact hp.mxm h
      · rename_i h0 h9
        split
        · exact List.mem_append_right _ (hq.mxm (fun e => h9 (hqz.2 e)))
        · exact List.mem_append_left _ (hp.mxm (fun e => h0 (hpz.2 e)))
  · intro c hc
    show lessC c (pickMn p q) = false
    unfold pickMn
    split
    · rename_i h0
      have := hpz.1 h0
      subst this
      exact hq.mn c hc
    · split
      · rename_i h0 h9
        have := hqz.1 h9
        subst this
        rw [List.append_nil] at hc
        exact hp.mn c hc
      · split
        · rename_i h10
          rcases List.mem_append.1 hc with h | h
          · exact lessC_le_trans (lessC_asymm h10) (hp.mn c h)
          · exact hq.mn c h
        · rename_i h10
          rcases List.mem_append.1 hc with h | h
          · exact hp.mn c h
          · exact lessC_le_trans (by simpa using h10) (hq.mn c h)
  · intro c hc
    show lessC (pickMx p q) c = false
    unfold pickMx
    split
    · rename_i h0
      have := hpz.1 h0
      subst this
      exact hq.mx c hc
    · split
      · rename_i h0 h9
        have := hqz.1 h9
        subst this
        rw [List.append_nil] at hc
        exact hp.mx c hc
      · split
        · rename_i h10
          rcases List.mem_append.1 hc with h | h
          · exact lessC_le_trans (hp.mx c h) (lessC_asymm h10)
          · exact hq.mx c h
        · rename_i h10
          rcases List.mem_append.1 hc with h | h
          · exact hp.mx c h
          · exact lessC_le_trans (hq.mx c h) (by simpa using h10)
/-- the Part of one value that occurs n times -/
def oneP (c : C3) (n : Nat) : P9 := ⟨n, (n * c.i) / 18446744073709551616, ((n * c.i) % 18446744073709551616).toNat, c, c⟩
theorem oneP_part (c : C3) (n : Nat) (h : 0 < n) : IsPart (List.replicate n c) (oneP c n) := by
  have hm : ∀ x ∈ List.replicate n c, x = c := fun x hx => (List.mem_replicate.1 hx).2
  refine ⟨?_, by simp [oneP], ?_, ?_, fun _ => List.mem_replicate.2 ⟨by omega, rfl⟩, fun _ => List.mem_replicate.2 ⟨by omega, rfl⟩, fun x hx => ?_, fun x hx => ?_⟩
  · intro e
    have := congrArg List.length e
    simp at this; omega
  · rw [sumI_replicate]
    unfold oneP
    simp only
    generalize (n : Int) * c.i = z
    omega
  · unfold oneP
    simp only
    generalize (n : Int) * c.i = z
    omega
  · rw [hm x hx]; exact lessC_irrefl _
  · rw [hm x hx]; exact lessC_irrefl _
/-- the values of a tally, each as often as it is told -/
def flatT (ps : List (C3 × Nat)) : List C3 := ps.flatMap fun p => List.replicate p.2 p.1
theorem flatT_snoc (ps : List (C3 × Nat)) (p : C3 × Nat) : flatT (ps ++ [p]) = flatT ps ++ List.replicate p.2 p.1 := by simp [flatT]
/-- the Parts of a tally, put together one behind the other -/
def foldT (ps : List (C3 × Nat)) : P9 := ps.foldl (fun p c => mergeP p (oneP c.1 c.2)) nilP
theorem foldT_snoc (ps : List (C3 × Nat)) (p : C3 × Nat) : foldT (ps ++ [p]) = mergeP (foldT ps) (oneP p.1 p.2) := by simp [foldT]
theorem foldT_part : ∀ (n : Nat) (ps : List (C3 × Nat)), ps.length = n → (flatT ps).length ≤ 1048576 → (∀ p ∈ ps, 0 < p.2) → (∀ p ∈ ps, -9223372036854775808 ≤ p.1.i ∧ p.1.i ≤ 9223372036854775807) → IsPart (flatT ps) (foldT ps) := by
  intro n
  induction n with
  | zero =>
    intro ps h _ _ _
    rw [List.length_eq_zero_iff] at h
    subst h
    exact IsPart.zero
  | succ n ih =>
    intro ps h hl hp hv
    obtain ⟨qs, p, rfl⟩ : ∃ qs p, ps = qs ++ [p] := ⟨ps.dropLast, ps.getLast (by intro e; simp [e] at h), (List.dropLast_concat_getLast _).symm⟩
    rw [flatT_snoc, foldT_snoc]
    rw [flatT_snoc, List.length_append] at hl
    have hq := ih qs (by simpa using h) (by omega) (fun p h => hp p (List.mem_append_left _ h)) (fun p h => hv p (List.mem_append_left _ h))
    have hpp := hp p (by simp)
    have hvp := hv p (by simp)
    refine hq.merge (oneP_part _ _ hpp) (by omega) ?_
    intro c hc
    rcases List.mem_append.1 hc with h1 | h1
    · unfold flatT at h1
      rw [List.mem_flatMap] at h1
      obtain ⟨q, hq1, hq2⟩ := h1
      rw [(List.mem_replicate.1 hq2).2]
      exact hv q (List.mem_append_left _ hq1)
    · rw [(List.mem_replicate.1 h1).2]; exact hvp
theorem flat_ins {α : Type} (F : Nat → List α) (x : α) (k : Nat) : ∀ m, k < m → ((List.range m).flatMap fun i => if i = k then x :: F i else F i).Perm (x :: (List.range m).flatMap F) := by
  intro m
  induction m with
  | zero => intro h; omega
  | succ m ih =>
    intro h
    rw [List.range_succ, List.flatMap_append, List.flatMap_append]
    simp only [List.flatMap_cons, List.flatMap_nil, List.append_nil]
    by_cases e : m = k
    · subst e
      rw [if_pos rfl]
      have : ((List.range m).flatMap fun i => if i = m then x :: F i else F i) = (List.range m).flatMap F := by
        rw [List.flatMap_def, List.flatMap_def]
        congr 1
        apply List.map_congr_left
        intro i hi
        rw [if_neg (by have := List.mem_range.1 hi; omega)]
      rw [this]
      exact List.perm_middle
    · rw [if_neg e]
      exact (ih (by omega)).append_right _
theorem flat_filter {α : Type} (q : Nat → Bool) (g : Nat → List α) (hg : ∀ i, q i = false → g i = []) (l : List Nat) : (l.filter q).flatMap g = l.flatMap g := by
  induction l with
  | nil => rfl
  | cons a r ih =>
    rw [List.filter_cons]
    split
    · rw [List.flatMap_cons, List.flatMap_cons, ih]
    · rename_i h
      rw [List.flatMap_cons, hg a (by simpa using h), List.nil_append, ih]
/-- the counted values are the chosen ones in another order -/
theorem shL_perm {α : Type} (d : α) (vals : List α) (f : Nat → Nat) (js : List Nat) (m : Nat) (h : ∀ j ∈ js, f j < m) :
    ((shL d vals (cntsL f js m) m).flatMap fun p => List.replicate p.2 p.1).Perm (js.map fun j => vals.getD (f j) d) := by
  unfold shL
  rw [List.flatMap_map]
  have e1 : ((List.range m).filter fun i => decide (0 < (cntsL f js m).getD i 0)).flatMap (fun i => List.replicate ((cntsL f js m).getD i 0) (vals.getD i d)) = (List.range m).flatMap fun i => List.replicate (cntOfF f js i) (vals.getD i d) := by
    rw [flat_filter _ _ (fun i hi => by
      have : (cntsL f js m).getD i 0 = 0 := by simpa using hi
      rw [this]; rfl)]
    rw [List.flatMap_def, List.flatMap_def]
    congr 1
    apply List.map_congr_left
    intro i hi
    rw [cntsL_get _ _ _ _ (List.mem_range.1 hi)]
  simp only
  rw [e1]
  clear e1
  induction js with
  | nil =>
    have : ((List.range m).flatMap fun i => List.replicate (cntOfF f [] i) (vals.getD i d)) = [] := by
      rw [List.flatMap_eq_nil_iff]
      intro i _
      simp [cntOfF]
    rw [this]; exact List.Perm.refl _
  | cons j r ih =>
    rw [List.map_cons]
    refine List.Perm.trans ?_ ((ih (fun x hx => h x (List.mem_cons_of_mem _ hx))).cons (vals.getD (f j) d))
    refine List.Perm.trans (List.Perm.of_eq ?_) (flat_ins (fun i => List.replicate (cntOfF f r i) (vals.getD i d)) (vals.getD (f j) d) (f j) m (h j (List.mem_cons_self ..)))
    rw [List.flatMap_def, List.flatMap_def]
    congr 1
    apply List.map_congr_left
    intro i _
    unfold cntOfF
    rw [List.countP_cons]
    by_cases e : i = f j
    · subst e
      simp [List.replicate_succ]
    · rw [if_neg e, if_neg (by simp; exact fun h => e h.symm)]
      rfl
end Go.Proofs.YthonbfojpbfmgaaGreatDoor

/- kernel.partOf: the Part of one value that occurs so many times. -/
set_option linter.unusedVariables false
set_option linter.unusedSimpArgs false
set_option linter.unnecessarySimpa false
set_option maxRecDepth 100000
namespace Go.Proofs.YthonbfojpbfmgaaGreatDoor
open Go.RowKit Go.Shelf

def renM : Ren := ⟨fun _ => 124, fun t => if t = 46 then 80 else 40, fun x => x⟩
theorem laysM : Lays.n264 Tryz.prog renM where
  mixed := by kernel_rfl
  f264 := by kernel_rfl
  t46 := by kernel_rfl
  a46 := fun w => by kernel_rfl
  z46 := fun w => by kernel_rfl
  v46 := fun w => by kernel_rfl
  t53 := by kernel_rfl
  a53 := fun w => by kernel_rfl
  z53 := fun w => by kernel_rfl
  v53 := fun w => by kernel_rfl
theorem Mul64_any (x y : Nat) (hx : x < 18446744073709551616) (hy : y < 18446744073709551616) (w : World) :
    Calls Tryz.prog 124 #[.int .u64 x, .int .u64 y] w fun e w' => e = .returned (.tuple #[.int .u64 ((x * y / 18446744073709551616 : Nat) : Int), .int .u64 ((x * y % 18446744073709551616 : Nat) : Int)]) ∧ w' = w := Any.bits_Mul64 laysM x y hx hy w
set_option maxHeartbeats 1000000 in
theorem partOf_any (c : C3) (n : Nat) (w : World) (hc : -9223372036854775808 ≤ c.i ∧ c.i ≤ 9223372036854775807) (hn : n ≤ 1048576) : Calls Tryz.prog 70 #[c.v, .int .i64 n] w fun e w' => e = .returned (oneP c n).v ∧ Below w.heap.size w w' := by
  obtain ⟨cn, ci, cs⟩ := c
  simp only at hc
  obtain ⟨u, hu⟩ : ∃ u : Nat, IntKind.u64.wrap ci = (u : Int) := ⟨(IntKind.u64.wrap ci).toNat, by rw [IntKind.wrap_u64]; omega⟩
  have hul : u < 18446744073709551616 := by rw [IntKind.wrap_u64] at hu; omega
  have hnw : IntKind.u64.wrap (n : Int) = (n : Int) := by rw [IntKind.wrap_u64]; omega
  obtain ⟨hi, hhi⟩ : ∃ hi, u * n / 18446744073709551616 = hi := ⟨_, rfl⟩
  obtain ⟨lo, hlo⟩ : ∃ lo, u * n % 18446744073709551616 = lo := ⟨_, rfl⟩
  have HM := hid (fun w2 : World => Mul64_any u n hul (by omega) w2)
  rw [hhi, hlo] at HM
  have hneg : ci < 0 → (u : Int) = ci + 18446744073709551616 := fun h => by rw [IntKind.wrap_u64] at hu; omega
  have hpos : ¬ ci < 0 → (u : Int) = ci := fun h => by rw [IntKind.wrap_u64] at hu; omega
  have hV : (oneP ⟨cn, ci, cs⟩ n).v = .agg #[.int .i64 n, .int .i64 (((n : Int) * ci) / 18446744073709551616), .int .u64 (((n : Int) * ci) % 18446744073709551616), .bool cn, .int .i64 ci, .string cs, .bool cn, .int .i64 ci, .string cs] := by
    have : ((((n : Int) * ci) % 18446744073709551616).toNat : Int) = ((n : Int) * ci) % 18446744073709551616 := by
      generalize (n : Int) * ci = z
      omega
    unfold oneP P9.v
    simp only [this]
  have hprod : ((u * n : Nat) : Int) = (n : Int) * (u : Int) := by rw [Int.natCast_mul, Int.mul_comm]
  by_cases h : ci < 0
  · have e1 := hneg h
    have hz : (n : Int) * (u : Int) = (n : Int) * ci + (n : Int) * 18446744073709551616 := by rw [e1, Int.mul_add]
    have hlim : -(9671406556917033397649408 : Int) ≤ (n : Int) * ci ∧ (n : Int) * ci ≤ 0 := by
      constructor
      · have h1 : (n : Int) * (-9223372036854775808) ≤ (n : Int) * ci := Int.mul_le_mul_of_nonneg_left hc.1 (by omega)
        omega
      · have h1 : (n : Int) * ci ≤ (n : Int) * 0 := Int.mul_le_mul_of_nonneg_left (by omega) (by omega)
        omega
    have hHI : Hid (wrap64 (IntKind.u64.wrap ((hi : Int) - (n : Int))) = (((n : Int) * ci) / 18446744073709551616)) := by
      refine hid ?_
      rw [IntKind.wrap_u64]
      unfold wrap64
      generalize (n : Int) * ci = z at *
      omega
    have hLO : Hid ((lo : Int) = (((n : Int) * ci) % 18446744073709551616)) := by
      refine hid ?_
      generalize (n : Int) * ci = z at *
      omega
    rw [hV, ← hHI.out, ← hLO.out]
    have HNW := hid hnw
    clear hHI hLO hz hlim hV hprod hneg hpos hhi hlo hul e1
    unfold C3.v
    go_enter Tryz.func70, Tryz.ntmps70
    go_wp2_with (go_at_call 124; refine (HM.out _).mono ?_; rintro e w1 ⟨rfl, rfl⟩)
    refine bodyPost_ret (v := .agg #[.int .i64 n, .int .i64 (wrap64 (IntKind.u64.wrap ((hi : Int) - (n : Int)))), .int .u64 lo, .bool cn, .int .i64 ci, .string cs, .bool cn, .int .i64 ci, .string cs]) ?_ rfl ⟨rfl, ((brefl w).alloc (Nat.le_refl _) _).alloc (by simp) _⟩
    simp [results, Tryz.results70, go_sem]
  · have e1 := hpos h
    rw [e1] at hprod
    have hlim : 0 ≤ (n : Int) * ci ∧ (n : Int) * ci ≤ 9671406556917033397649408 := by
      constructor
      · have h1 : (n : Int) * 0 ≤ (n : Int) * ci := Int.mul_le_mul_of_nonneg_left (by omega) (by omega)
        omega
      · have h1 : (n : Int) * ci ≤ (n : Int) * 9223372036854775807 := Int.mul_le_mul_of_nonneg_left (by omega) (by omega)
        omega
    have hHI : Hid (wrap64 (hi : Int) = (((n : Int) * ci) / 18446744073709551616)) := by
      refine hid ?_
      unfold wrap64
      generalize (n : Int) * ci = z at *
      omega
    have hLO : Hid ((lo : Int) = (((n : Int) * ci) % 18446744073709551616)) := by
      refine hid ?_
      generalize (n : Int) * ci = z at *
      omega
    rw [hV, ← hHI.out, ← hLO.out]
    have HNW := hid hnw
    clear hHI hLO hlim hV hprod hneg hpos hhi hlo hul e1
    unfold C3.v
    go_enter Tryz.func70, Tryz.ntmps70
    go_wp2_with (go_at_call 124; refine (HM.out _).mono ?_; rintro e w1 ⟨rfl, rfl⟩)
    refine bodyPost_ret (v := .agg #[.int .i64 n, .int .i64 (wrap64 (hi : Int)), .int .u64 lo, .bool cn, .int .i64 ci, .string cs, .bool cn, .int .i64 ci, .string cs]) ?_ rfl ⟨rfl, ((brefl w).alloc (Nat.le_refl _) _).alloc (by simp) _⟩
    simp [results, Tryz.results70, go_sem]
theorem foldT_lo (ps : List (C3 × Nat)) : (foldT ps).lo < 18446744073709551616 := by
  rcases List.eq_nil_or_concat ps with rfl | ⟨qs, p, rfl⟩
  · decide
  · rw [List.concat_eq_append, foldT_snoc]; exact Nat.mod_lt _ (by decide)
theorem oneP_lo (c : C3) (n : Nat) : (oneP c n).lo < 18446744073709551616 := by
  show (((n : Int) * c.i) % 18446744073709551616).toNat < _
  generalize (n : Int) * c.i = z
  omega
end Go.Proofs.YthonbfojpbfmgaaGreatDoor

/- Nine cells of a block set one behind the other: the store of a Part. -/
set_option maxRecDepth 512
set_option linter.unusedVariables false
set_option linter.unusedSimpArgs false
set_option linter.unnecessarySimpa false
namespace Go.Proofs.YthonbfojpbfmgaaGreatDoor
open Go.RowKit

/-- the world with a block's first nine cells set -/
def set9 (w : World) (g : Nat) (a0 a1 a2 a3 a4 a5 a6 a7 a8 : Value) : World :=
  ((((((((w.setCell ⟨g, 0, none⟩ a0).setCell ⟨g, 1, none⟩ a1).setCell ⟨g, 2, none⟩ a2).setCell ⟨g, 3, none⟩ a3).setCell ⟨g, 4, none⟩ a4).setCell ⟨g, 5, none⟩ a5).setCell ⟨g, 6, none⟩ a6).setCell ⟨g, 7, none⟩ a7).setCell ⟨g, 8, none⟩ a8
theorem set9_row {w : World} {g : Nat} {e : TypeId} {b0 b1 b2 b3 b4 b5 b6 b7 b8 : Value} (h : Row w g e [b0, b1, b2, b3, b4, b5, b6, b7, b8]) (a0 a1 a2 a3 a4 a5 a6 a7 a8 : Value) :
    Row (set9 w g a0 a1 a2 a3 a4 a5 a6 a7 a8) g e [a0, a1, a2, a3, a4, a5, a6, a7, a8] :=
  ((((((((h.set 0 a0).set 1 a1).set 2 a2).set 3 a3).set 4 a4).set 5 a5).set 6 a6).set 7 a7).set 8 a8
theorem set9_mid {U : Nat → Prop} {b : Nat} (w : World) (g : Nat) (hu : ¬ U g) (hb : g < b) (a0 a1 a2 a3 a4 a5 a6 a7 a8 : Value) : Mid U b w (set9 w g a0 a1 a2 a3 a4 a5 a6 a7 a8) :=
  (((((((((Mid.set w g 0 a0 hu hb).trans (Mid.set _ g 1 a1 hu hb)).trans (Mid.set _ g 2 a2 hu hb)).trans (Mid.set _ g 3 a3 hu hb)).trans (Mid.set _ g 4 a4 hu hb)).trans (Mid.set _ g 5 a5 hu hb)).trans (Mid.set _ g 6 a6 hu hb)).trans (Mid.set _ g 7 a7 hu hb)).trans (Mid.set _ g 8 a8 hu hb))
theorem set9_below {n : Nat} {w v : World} (h : Below n v w) (g : Nat) (hg : n ≤ g) (a0 a1 a2 a3 a4 a5 a6 a7 a8 : Value) : Below n v (set9 w g a0 a1 a2 a3 a4 a5 a6 a7 a8) :=
  below_set (below_set (below_set (below_set (below_set (below_set (below_set (below_set (below_set h g 0 a0 hg) g 1 a1 hg) g 2 a2 hg) g 3 a3 hg) g 4 a4 hg) g 5 a5 hg) g 6 a6 hg) g 7 a7 hg) g 8 a8 hg
theorem set9_other {w : World} {g p : Nat} {e : TypeId} {cs : List Value} (h : Row w p e cs) (hne : p ≠ g) (a0 a1 a2 a3 a4 a5 a6 a7 a8 : Value) : Row (set9 w g a0 a1 a2 a3 a4 a5 a6 a7 a8) p e cs :=
  row_set_other (row_set_other (row_set_other (row_set_other (row_set_other (row_set_other (row_set_other (row_set_other (row_set_other h hne) hne) hne) hne) hne) hne) hne) hne) hne
theorem frz9 {w : World} {g : Nat} {e : TypeId} {cs : List Value} (h : Row w g e cs) : w.frozen? ⟨g, 0, none⟩ = false ∧ w.frozen? ⟨g, 1, none⟩ = false ∧ w.frozen? ⟨g, 2, none⟩ = false ∧ w.frozen? ⟨g, 3, none⟩ = false ∧ w.frozen? ⟨g, 4, none⟩ = false ∧ w.frozen? ⟨g, 5, none⟩ = false ∧ w.frozen? ⟨g, 6, none⟩ = false ∧ w.frozen? ⟨g, 7, none⟩ = false ∧ w.frozen? ⟨g, 8, none⟩ = false :=
  ⟨h.frozen 0, h.frozen 1, h.frozen 2, h.frozen 3, h.frozen 4, h.frozen 5, h.frozen 6, h.frozen 7, h.frozen 8⟩
end Go.Proofs.YthonbfojpbfmgaaGreatDoor

/- Package kernel: fold of one kind (integers). -/
set_option linter.unusedVariables false
set_option linter.unusedSimpArgs false
set_option linter.unnecessarySimpa false
set_option maxRecDepth 100000
namespace Go.Proofs.YthonbfojpbfmgaaGreatDoor
open Go.RowKit Go.Shelf
attribute [local go_sem] Oper.semAt_some

/-- a value as a cell -/
def vC_I (x : Int) : C3 := ⟨false, x, ByteArray.empty⟩
/-- a tally's pair, its value as a cell -/
def eP_I (p : Int × Nat) : C3 × Nat := (vC_I p.1, p.2)
/-- what a body tells in the rows that are chosen -/
def foldP_I (rows : Nat) (xs sel : List Nat) : P9 := foldT ((tallyP_I (headOf rows xs).codec (headOf rows xs).wd (lkOut_I rows xs).list (lkOut_I rows xs).ends (lkBase_I rows xs) (lkOut_I rows xs).lanes (chosenN sel (headOf rows xs).nulls (64 * sel.length))).map eP_I)
/-- what must be known of a body, for a fold -/
structure FoD_I (rows : Nat) (xs sel : List Nat) : Prop where
  tl : TlD_I (headOf rows xs).codec (headOf rows xs).wd (lkOut_I rows xs).list (lkOut_I rows xs).ends (lkOut_I rows xs).lanes (chosenN sel (headOf rows xs).nulls (64 * sel.length))
  nl : (headOf rows xs).nulls.length = (rows + 63) / 64
  nv : ∀ x ∈ (headOf rows xs).nulls, x < 18446744073709551616
  pr : ∀ p ∈ tallyP_I (headOf rows xs).codec (headOf rows xs).wd (lkOut_I rows xs).list (lkOut_I rows xs).ends (lkBase_I rows xs) (lkOut_I rows xs).lanes (chosenN sel (headOf rows xs).nulls (64 * sel.length)), (-9223372036854775808 ≤ (eP_I p).1.i ∧ (eP_I p).1.i ≤ 9223372036854775807) ∧ p.2 ≤ 1048576
set_option maxHeartbeats 8000000 in
theorem fold_I (w : World) (v sv : Value) (xs sel : List Nat) (rows : Nat) (hT : Tab w) (hv : Rd w v xs.length 1 (u8s xs)) (hb : ∀ x ∈ xs, x < 256) (hl : xs.length ≤ 16777216) (hrr : rows ≤ 65536)
    (hs : Rd w sv sel.length 1 (u64s sel)) (hsv : ∀ x ∈ sel, x < 18446744073709551616) (hsl : sel.length = (rows + 63) / 64) (hsr : ∀ r, bitOf sel r = true → r < rows) (hval : lkOk_I rows xs = true → FoD_I rows xs sel) :
    Calls Tryz.prog 38 #[.iface 68 (.agg #[]), .int .i64 rows, v, sv] w fun e w' =>
      Below w.heap.size w w' ∧ ((lkOk_I rows xs = false ∧ e = .returned (.tuple #[nilP.v, .int .i64 1])) ∨ (lkOk_I rows xs = true ∧ e = .returned (.tuple #[(foldP_I rows xs sel).v, .int .i64 0]))) := by
  obtain ⟨s, hsz⟩ : ∃ s, w.heap.size = s := ⟨_, rfl⟩
  have HLK := hid (fun (w2 : World) (h : Below w.heap.size w w2) => Look_I w2 v xs rows (hT.mono h hT.lt) (hv.mono h) hb hl hrr)
  have HGV := hid (fun (h0 : lkOk_I rows xs = true) (wc : World) (hbc : Below w.heap.size w wc) (g : Nat) (hk : Ck_I wc g rows (headOf rows xs).codec (headOf rows xs).wd (headOf rows xs).nulls (cntOf rows (headOf rows xs).nulls) (lkOut_I rows xs).list (lkOut_I rows xs).ends (lkBase_I rows xs) (lkOut_I rows xs).lanes) =>
    tally_gives_I wc g rows (headOf rows xs).codec (headOf rows xs).wd (headOf rows xs).nulls (cntOf rows (headOf rows xs).nulls) (lkOut_I rows xs).list (lkOut_I rows xs).ends (lkBase_I rows xs) (lkOut_I rows xs).lanes hk (hval h0).nl (hval h0).nv hrr sv sel (hs.mono hbc) hsv hsl hsr (hT.mono hbc hT.lt) (hval h0).tl)
  have HPR := hid (fun (h0 : lkOk_I rows xs = true) => (hval h0).pr)
  obtain ⟨A0, c0, rfl, _, _, _⟩ := hv.form
  obtain ⟨As, cs, rfl, _, _, _⟩ := hs.form
  clear hT hv hs hval hsv hsl hsr hb
  have HFP : Hid (foldP_I rows xs sel = foldT ((tallyP_I (headOf rows xs).codec (headOf rows xs).wd (lkOut_I rows xs).list (lkOut_I rows xs).ends (lkBase_I rows xs) (lkOut_I rows xs).lanes (chosenN sel (headOf rows xs).nulls (64 * sel.length))).map eP_I)) := hid rfl
  generalize foldP_I rows xs sel = fp at *
  generalize sel.length = sn at *
  have HB0 := hid (((brefl w).alloc (Nat.le_refl _) (.cells #[.iface 68 (.agg #[])] 109)).alloc (by simp) (.cells #[.int .i64 0, .int .i64 0, .int .u64 0, .bool false, .int .i64 0, .string ⟨#[]⟩, .bool false, .int .i64 0, .string ⟨#[]⟩] 44))
  have HRK : Hid (Row ((w.alloc (.cells #[.iface 68 (.agg #[])] 109)).alloc (.cells #[.int .i64 0, .int .i64 0, .int .u64 0, .bool false, .int .i64 0, .string ⟨#[]⟩, .bool false, .int .i64 0, .string ⟨#[]⟩] 44)) s 109 [.iface 68 (.agg #[])]) := hid (by
    have h1 : Row (w.alloc (.cells #[.iface 68 (.agg #[])] 109)) s 109 [.iface 68 (.agg #[])] := by rw [← hsz]; unfold Row; rw [heap_alloc_new]
    exact h1.mono ((brefl _).alloc (Nat.le_refl _) _))
  have HRP : Hid (Row ((w.alloc (.cells #[.iface 68 (.agg #[])] 109)).alloc (.cells #[.int .i64 0, .int .i64 0, .int .u64 0, .bool false, .int .i64 0, .string ⟨#[]⟩, .bool false, .int .i64 0, .string ⟨#[]⟩] 44)) (s + 1) 44 [.int .i64 0, .int .i64 0, .int .u64 0, .bool false, .int .i64 0, .string ⟨#[]⟩, .bool false, .int .i64 0, .string ⟨#[]⟩]) := hid (by
    have e : s + 1 = (w.alloc (.cells #[.iface 68 (.agg #[])] 109)).heap.size := by simp [hsz]
    rw [e]; unfold Row; rw [heap_alloc_new])
  have HSZ : Hid (((w.alloc (.cells #[.iface 68 (.agg #[])] 109)).alloc (.cells #[.int .i64 0, .int .i64 0, .int .u64 0, .bool false, .int .i64 0, .string ⟨#[]⟩, .bool false, .int .i64 0, .string ⟨#[]⟩] 44)).heap.size = s + 2) := hid (by simp [hsz])
  have hcm := m_Cell_I
  refine (callsIn_wide (n := 9)).1 ?_
  refine callsIn_of_wp_marks Tryz.func38 rfl trivial ?_ rfl
  simp only [Tryz.ntmps38, List.size_toArray, List.length_cons, List.length_nil, Nat.reduceAdd, Nat.reduceSub, Array.replicate_succ, Array.replicate_zero, List.push_toArray, List.append_toArray, List.nil_append, List.cons_append]
  refine wpIn_wide.2 ?_
  go_upto_region 1 with fail
  generalize (w.alloc (.cells #[.iface 68 (.agg #[])] 109)).alloc (.cells #[.int .i64 0, .int .i64 0, .int .u64 0, .bool false, .int .i64 0, .string ⟨#[]⟩, .bool false, .int .i64 0, .string ⟨#[]⟩] 44) = w0 at *
  have k0 := HRK.out.cell 0
  simp only [List.getElem?_cons_zero] at k0
  go_wp2_with fail
  refine (HLK.out w0 HB0.out).mono ?_
  rintro e w1 ⟨hb1, ⟨h0, rfl⟩ | ⟨h0, nu, lv, ev, nv, bef, rfl, h1, h2, h3, h4, h5⟩⟩
  · have H0 := hid h0
    clear h0
    have HB1 := hid hb1
    have HB2 := hid (hb1.alloc hb1.size (.cells zeroCk_I.toArray 111))
    unfold zeroCk_I i64 nilS at HB2 ⊢
    have HRP2 := hid (HRP.out.mono HB2.out)
    obtain ⟨z0, z1, z2, z3, z4, z5, z6, z7, z8⟩ := row9 HRP2.out
    obtain ⟨f0, f1, f2, f3, f4, f5, f6, f7, f8⟩ := frz9 HRP2.out
    clear hb1 HLK HGV HPR hcm k0
    go_wp2_with fail
    have HBF := hid (set9_below (HB0.out.trans (HB2.out.mono HB0.out.size)) (s + 1) (by omega) (.int .i64 0) (.int .i64 0) (.int .u64 0) (.bool false) (.int .i64 0) (.string ⟨#[]⟩) (.bool false) (.int .i64 0) (.string ⟨#[]⟩))
    have HRF := hid (set9_row HRP2.out (.int .i64 0) (.int .i64 0) (.int .u64 0) (.bool false) (.int .i64 0) (.string ⟨#[]⟩) (.bool false) (.int .i64 0) (.string ⟨#[]⟩))
    obtain ⟨y0, y1, y2, y3, y4, y5, y6, y7, y8⟩ := row9 HRF.out
    unfold set9 at HBF y0 y1 y2 y3 y4 y5 y6 y7 y8
    refine ⟨.tuple #[.agg #[.int .i64 0, .int .i64 0, .int .u64 0, .bool false, .int .i64 0, .string ⟨#[]⟩, .bool false, .int .i64 0, .string ⟨#[]⟩], .int .i64 1], ?_, HBF.out, .inl ⟨H0.out, rfl⟩⟩
    clear HBF HRF HRP2 HB2 z0 z1 z2 z3 z4 z5 z6 z7 z8 f0 f1 f2 f3 f4 f5 f6 f7 f8
    simp [results, Tryz.results38, go_sem, y0, y1, y2, y3, y4, y5, y6, y7, y8]
  · have H0 := hid h0
    clear h0
    obtain ⟨g, hg⟩ : ∃ g, w1.heap.size = g := ⟨_, rfl⟩
    have hsz1 : s + 2 ≤ g := by have h9 : w0.heap.size ≤ w1.heap.size := hb1.size; have := HSZ.out; omega
    have HCK := hid (@ck_laid_I w1 rows xs nu lv ev nv bef (owns_rd h1) h2 h3 h4 h5)
    obtain ⟨A2, c2, rfl, _, _, _⟩ := (owns_rd h1).form
    obtain ⟨A3, c3, rfl, _, _, _⟩ := h2.form
    obtain ⟨A4, c4, rfl, _, _, _⟩ := h3.form
    obtain ⟨A5, c5, rfl, _, _, _⟩ := h4.form
    obtain ⟨A6, c6, rfl, _, _, _⟩ := h5.form
    have HB2 : Hid (Below w0.heap.size w0 (w1.alloc (.cells (ck_I rows (headOf rows xs).codec (headOf rows xs).wd (.slice A2 (headOf rows xs).nulls.length c2) (cntOf rows (headOf rows xs).nulls) (.slice A3 (lkOut_I rows xs).list.length c3) (.slice A4 (lkOut_I rows xs).ends.length c4) (lkBase_I rows xs) (.slice A5 (lkOut_I rows xs).lanes.length c5) kind_I (.slice A6 (headOf rows xs).nulls.length c6)).toArray 111))) := hid (hb1.alloc hb1.size _)
    have HZ2 : Hid ((w1.alloc (.cells (ck_I rows (headOf rows xs).codec (headOf rows xs).wd (.slice A2 (headOf rows xs).nulls.length c2) (cntOf rows (headOf rows xs).nulls) (.slice A3 (lkOut_I rows xs).list.length c3) (.slice A4 (lkOut_I rows xs).ends.length c4) (lkBase_I rows xs) (.slice A5 (lkOut_I rows xs).lanes.length c5) kind_I (.slice A6 (headOf rows xs).nulls.length c6)).toArray 111)).heap.size = g + 1) := hid (by simp [hg])
    clear h1 h2 h3 h4 h5 hb1 HLK
    rw [hg] at HCK
    have HGV1 := hid (HGV.out H0.out)
    have HPR1 := hid (HPR.out H0.out)
    clear HGV HPR
    obtain ⟨ps, hps⟩ : ∃ ps, tallyP_I (headOf rows xs).codec (headOf rows xs).wd (lkOut_I rows xs).list (lkOut_I rows xs).ends (lkBase_I rows xs) (lkOut_I rows xs).lanes (chosenN sel (headOf rows xs).nulls (64 * sn)) = ps := ⟨_, rfl⟩
    rw [hps] at HGV1 HPR1 HFP
    clear hps
    generalize (cntOf rows (headOf rows xs).nulls) = kk at *
    generalize headOf rows xs = H at *
    generalize lkOut_I rows xs = O at *
    generalize lkBase_I rows xs = bs at *
    unfold ck_I i64 kind_I at HB2 HZ2 HCK ⊢
    go_upto_region 4 with fail
    try simp only [hg]
    generalize w1.alloc (.cells #[.int .i64 rows, .int .i64 H.codec, .int .i64 H.wd, .slice A2 H.nulls.length c2, .int .i64 kk, .slice A3 O.list.length c3, .slice A4 O.ends.length c4, .int .i64 bs, .slice A5 O.lanes.length c5, .iface 68 (.agg #[]), .slice A6 H.nulls.length c6] 111) = w2 at *
    have HW2 := hid (HB0.out.trans (HB2.out.mono HB0.out.size))
    have HRK2 := hid (HRK.out.mono HB2.out)
    have HRP2 := hid (HRP.out.mono HB2.out)
    have HG2 := hid (HGV1.out w2 HW2.out g HCK.out)
    clear HGV1 HCK HRK HRP HB0 HB2 k0
    have hz2 := HZ2.out
    have HA3 := hid ((brefl w2).alloc (Nat.le_refl _) (.cells #[.int .i64 0, .int .i64 0, .int .u64 0, .bool false, .int .i64 0, .string ⟨#[]⟩, .bool false, .int .i64 0, .string ⟨#[]⟩] 44))
    have HRW3 : Hid (Row (w2.alloc (.cells #[.int .i64 0, .int .i64 0, .int .u64 0, .bool false, .int .i64 0, .string ⟨#[]⟩, .bool false, .int .i64 0, .string ⟨#[]⟩] 44)) (g + 1) 44 [.int .i64 0, .int .i64 0, .int .u64 0, .bool false, .int .i64 0, .string ⟨#[]⟩, .bool false, .int .i64 0, .string ⟨#[]⟩]) := hid (by rw [← hz2]; unfold Row; rw [heap_alloc_new])
    have HZ3 : Hid ((w2.alloc (.cells #[.int .i64 0, .int .i64 0, .int .u64 0, .bool false, .int .i64 0, .string ⟨#[]⟩, .bool false, .int .i64 0, .string ⟨#[]⟩] 44)).heap.size = g + 2) := hid (by simp [hz2])
    go_upto_region 5 with fail
    generalize w2.alloc (.cells #[.int .i64 0, .int .i64 0, .int .u64 0, .bool false, .int .i64 0, .string ⟨#[]⟩, .bool false, .int .i64 0, .string ⟨#[]⟩] 44) = w3 at *
    have HTA := hid (Tally_I w3 g As sn cs)
    have HA4 := hid ((((brefl w3).alloc (Nat.le_refl _) (.cells #[.pointer (some ⟨g, 0, none⟩)] 115))).alloc (by simp) (.cells #[.slice As sn cs] 28))
    have HZ4 : Hid (((w3.alloc (.cells #[.pointer (some ⟨g, 0, none⟩)] 115)).alloc (.cells #[.slice As sn cs] 28)).heap.size = g + 4) := hid (by have := HZ3.out; simp; omega)
    have HP4 : Hid (((w3.alloc (.cells #[.pointer (some ⟨g, 0, none⟩)] 115)).alloc (.cells #[.slice As sn cs] 28)).cell? ⟨g + 2, 0, none⟩ = some (.pointer (some ⟨g, 0, none⟩))) := hid (by rw [← HZ3.out]; simp)
    have HQ4 : Hid (((w3.alloc (.cells #[.pointer (some ⟨g, 0, none⟩)] 115)).alloc (.cells #[.slice As sn cs] 28)).cell? ⟨g + 2 + 1, 0, none⟩ = some (.slice As sn cs)) := hid (by rw [← HZ3.out]; simp)
    rw [HZ3.out] at HTA
    go_wp2_with (go_at_call 71; refine HTA.out.mono ?_; rintro e w4 ⟨rfl, hw4⟩; rw [← hw4] at HA4 HZ4 HP4 HQ4; clear hw4)
    have hz4 := HZ4.out
    have HB34 := hid (HA3.out.trans (HA4.out.mono (by have := HZ3.out; omega)))
    have HRK4 := hid (HRK2.out.mono HB34.out)
    have HRP4 := hid (HRP2.out.mono HB34.out)
    have HRW4 := hid (HRW3.out.mono HA4.out)
    have HW4 := hid (HW2.out.trans (HB34.out.mono HW2.out.size))
    clear HRK2 HRP2 HRW3 HA3 HA4 HTA
    generalize Value.agg #[.int .i64 rows, .int .i64 H.codec, .int .i64 H.wd, .slice A2 H.nulls.length c2, .int .i64 kk, .slice A3 O.list.length c3, .slice A4 O.ends.length c4, .int .i64 bs, .slice A5 O.lanes.length c5, .iface 68 (.agg #[]), .slice A6 H.nulls.length c6] = AG
    obtain ⟨I, hI⟩ : ∃ I : List (Int × Nat) → World → Prop, I = fun pre W => Row W s 109 [.iface 68 (.agg #[])] ∧ Row W (g + 1) 44 (foldT (pre.map eP_I)).vs ∧ Row W (s + 1) 44 [.int .i64 0, .int .i64 0, .int .u64 0, .bool false, .int .i64 0, .string ⟨#[]⟩, .bool false, .int .i64 0, .string ⟨#[]⟩] ∧ Below w.heap.size w W := ⟨_, rfl⟩
    have HI := hid hI
    clear hI
    refine wpIn_wide.1 (range_all (n := 9) rfl (gf := 125) (lb := #[.pointer (some ⟨g + 2, 0, none⟩), .pointer (some ⟨g + 2 + 1, 0, none⟩)]) rfl (enters_of Tryz.func125 (by kernel_rfl) rfl)
      (HG2.out w4 HB34.out (fun k => k < g + 1 ∨ k = g + 2 ∨ k = g + 3) (fun k hk => .inl (by omega)) (fun k hk => by omega) _ _ (by omega) (by omega) (.inr (.inr rfl)) (.inr (.inl rfl)) HQ4.out HP4.out) (brefl w4) (fun k hk => by omega) (fun _ => rfl)
      I
      (fun pre A B h hb => by rw [HI.out] at h ⊢; exact ⟨h.1.below hb (by omega), h.2.1.below hb (by omega), h.2.2.1.below hb (by omega), h.2.2.2.trans (hb.mono (by omega))⟩)
      (by rw [HI.out]; exact ⟨HRK4.out, HRW4.out, HRP4.out, HW4.out⟩)
      (fun x => { tmps := #[.iface 68 (.agg #[]), .int .i64 rows, .slice A0 xs.length c0, .slice As sn cs, .pointer (some ⟨s, 0, none⟩), undef, undef, undef, .pointer (some ⟨s + 1, 0, none⟩), .int .i64 0, .pointer (some ⟨g, 0, none⟩), .bool true, .pointer (some ⟨g + 1, 0, none⟩), vI x.1, .int .i64 (x.2 : Nat),
        .tuple #[AG, .bool true], .iface 68 (.agg #[]), .int .i64 rows, .slice A0 xs.length c0, .tuple #[AG, .bool true], AG, .bool true, .bool true, .bool false, undef, .slice As sn cs, .func (.func 125) #[] #[.pointer (some ⟨g + 2, 0, none⟩), .pointer (some ⟨g + 2 + 1, 0, none⟩)], vI x.1, .int .i64 (x.2 : Nat), undef, undef, undef, undef, undef, undef, undef, undef], defers := [] })
      ?assign ?body ?done)
    case assign =>
      intro l x W K hK
      unfold vI at hK ⊢
      gi_wp2
      exact hK
    case body =>
      rintro l pre x W hpre hIW hsW hmW
      have HIW := hid hIW
      rw [HI.out] at hIW
      obtain ⟨r1, r2, r3, hbW⟩ := hIW
      obtain ⟨xv, xn⟩ := x
      have hpx : (-9223372036854775808 ≤ (vC_I xv).i ∧ (vC_I xv).i ≤ 9223372036854775807) ∧ xn ≤ 1048576 := HPR1.out (xv, xn) (mem_prefix hpre).1
      have HFS : Hid (foldT ((pre ++ [(xv, xn)]).map eP_I) = mergeP (foldT (pre.map eP_I)) (oneP (vC_I xv) xn)) := hid (by rw [List.map_append, List.map_cons, List.map_nil, foldT_snoc]; rfl)
      have hlo := foldT_lo (pre.map eP_I)
      generalize foldT (pre.map eP_I) = q at *
      have HCE : Hid (∀ w9 : World, Calls Tryz.prog 271 #[.agg #[], vI xv] w9 fun e w' => e = .returned (vC_I xv).v ∧ Below w9.heap.size w9 w') := hid (fun w9 : World => CellRaw_I xv w9)
      unfold vI at HCE
      have HPO := hid (fun w9 : World => partOf_any (vC_I xv) xn w9 hpx.1 hpx.2)
      have HMG := hid (fun w9 : World => Merge_any q (oneP (vC_I xv) xn) w9 hlo (oneP_lo _ _))
      generalize vC_I xv = cv at *
      generalize oneP cv xn = one at *
      have hy := r1.cell 0
      simp only [List.getElem?_cons_zero] at hy
      have HR1 := hid r1; have HR2 := hid r2; have HR3 := hid r3; have HBW := hid hbW
      obtain ⟨y0, y1, y2, y3, y4, y5, y6, y7, y8⟩ := row9 r2
      have hmx : Tryz.prog.follows .mixedOrders = true := by kernel_rfl
      clear r1 r2 r3 hbW hpx hlo
      generalize mergeP q one = mg at *
      unfold vI
      generalize cv.v = cvv at *
      unfold P9.v at HMG HPO
      gi_wp2
      gi_region_with_o (first
        | (refine ⟨trivial, ?_⟩; gi_at_call 271; refine (CallsIn.inRound l (callsIn_wide.2 (HCE.out _))).mono ?_; rintro e w5 ⟨rfl, hb5⟩; have HB5 : Hid (Below W.heap.size W w5) := hid (bthen (bdrew (brefl W) 1) hb5); obtain ⟨q0, q1, q2, q3, q4, q5, q6, q7, q8⟩ := row9 (HR2.out.mono HB5.out); clear hb5)
        | (refine ⟨trivial, ?_⟩; gi_at_call 70; refine (CallsIn.inRound l (callsIn_wide.2 (HPO.out _))).mono ?_; rintro e w6 ⟨rfl, hb6⟩; have HB6 : Hid (Below W.heap.size W w6) := hid (bthen HB5.out hb6); obtain ⟨t0, t1, t2, t3, t4, t5, t6, t7, t8⟩ := row9 (HR2.out.mono HB6.out); clear hb6)
        | (refine ⟨trivial, ?_⟩; gi_at_call 23; refine (CallsIn.inRound l (callsIn_wide.2 (HMG.out _))).mono ?_; rintro e w7 ⟨rfl, hb7⟩; have HB7 : Hid (Below W.heap.size W w7) := hid (bthen HB6.out hb7); obtain ⟨v0, v1, v2, v3, v4, v5, v6, v7, v8⟩ := row9 (HR2.out.mono HB7.out); obtain ⟨f0, f1, f2, f3, f4, f5, f6, f7, f8⟩ := frz9 (HR2.out.mono HB7.out); clear hb7))
      all_goals gi_wp2
      all_goals
        refine ⟨?_, ((Mid.of_below HB7.out).trans (set9_mid (U := fun k => k < g + 1 ∨ k = g + 2 ∨ k = g + 3) (b := g + 4) w7 (g + 1) (by omega) (by omega) (.int .i64 mg.ct) (.int .i64 mg.hi) (.int .u64 mg.lo) (.bool mg.mn.n) (.int .i64 mg.mn.i) (.string mg.mn.s) (.bool mg.mx.n) (.int .i64 mg.mx.i) (.string mg.mx.s)))⟩
        rw [HI.out]
        refine ⟨set9_other (HR1.out.mono HB7.out) (by omega) _ _ _ _ _ _ _ _ _, ?_, set9_other (HR3.out.mono HB7.out) (by omega) _ _ _ _ _ _ _ _ _, set9_below (HBW.out.trans (HB7.out.mono (by have := hsW; omega))) (g + 1) (by omega) _ _ _ _ _ _ _ _ _⟩
        rw [HFS.out]
        exact set9_row (HR2.out.mono HB7.out) _ _ _ _ _ _ _ _ _
    case done =>
      rintro W hIW hmW hK
      rw [HI.out] at hIW
      obtain ⟨r1, r2, r3, hbW⟩ := hIW
      rw [← HFP.out] at r2
      have HR2 := hid r2; have HR3 := hid r3; have HBW := hid hbW; have HKK := hid hK
      obtain ⟨y0, y1, y2, y3, y4, y5, y6, y7, y8⟩ := row9 r2
      obtain ⟨z0, z1, z2, z3, z4, z5, z6, z7, z8⟩ := row9 r3
      obtain ⟨f0, f1, f2, f3, f4, f5, f6, f7, f8⟩ := frz9 r3
      clear r1 r2 r3 hbW hK
      go_wp2_with fail
      have HRF := hid (set9_row HR3.out (.int .i64 fp.ct) (.int .i64 fp.hi) (.int .u64 fp.lo) (.bool fp.mn.n) (.int .i64 fp.mn.i) (.string fp.mn.s) (.bool fp.mx.n) (.int .i64 fp.mx.i) (.string fp.mx.s))
      have HBF := hid (set9_below HBW.out (s + 1) (by omega) (.int .i64 fp.ct) (.int .i64 fp.hi) (.int .u64 fp.lo) (.bool fp.mn.n) (.int .i64 fp.mn.i) (.string fp.mn.s) (.bool fp.mx.n) (.int .i64 fp.mx.i) (.string fp.mx.s))
      have hwk : w4.heap.size < W.heap.size := (Array.getElem?_eq_some_iff.1 HKK.out).1
      have HKF := hid (((set9_mid (U := fun k => k = g + 4) (b := W.heap.size) W (s + 1) (by omega) (by omega) (.int .i64 fp.ct) (.int .i64 fp.hi) (.int .u64 fp.lo) (.bool fp.mn.n) (.int .i64 fp.mn.i) (.string fp.mn.s) (.bool fp.mx.n) (.int .i64 fp.mx.i) (.string fp.mx.s)).keep w4.heap.size hwk (.inl hz4)).trans HKK.out)
      unfold set9 at HRF HBF HKF
      refine ⟨by simp, .inl ⟨_, _, rfl, run_takeDeferred HKF.out, ?_⟩⟩
      have HPB := hid (put_below (o' := .deferred none) HKF.out (Nat.le_refl _))
      have HRZ := hid (HRF.out.below HPB.out (by omega))
      refine ⟨.tuple #[fp.v, .int .i64 0], ?_, HBF.out.trans (HPB.out.mono (by omega)), .inr ⟨H0.out, rfl⟩⟩
      clear y0 y1 y2 y3 y4 y5 y6 y7 y8 z0 z1 z2 z3 z4 z5 z6 z7 z8 f0 f1 f2 f3 f4 f5 f6 f7 f8
      obtain ⟨y0, y1, y2, y3, y4, y5, y6, y7, y8⟩ := row9 HRZ.out
      clear HRZ HPB HRF HBF HKF
      unfold P9.v
      simp [results, Tryz.results38, go_sem, y0, y1, y2, y3, y4, y5, y6, y7, y8]
end Go.Proofs.YthonbfojpbfmgaaGreatDoor

/- A body that a look finds valid has what a filter asks (integers). -/
set_option linter.unusedVariables false
set_option linter.unusedSimpArgs false
set_option linter.unnecessarySimpa false
set_option maxRecDepth 20000
namespace Go.Proofs.YthonbfojpbfmgaaGreatDoor
open Go.RowKit

theorem asc_geI {vals : List Int} (h : noPair geI vals = true) : ∀ a b, a < b → b < vals.length → vals.getD a 0 < vals.getD b 0 := by
  have h1 := (noPair_iff geI 0 vals).1 h
  intro a b hab
  induction b with
  | zero => omega
  | succ b ih =>
    intro hb
    have h2 := h1 b hb
    unfold geI at h2
    simp only [decide_eq_false_iff_not] at h2
    by_cases he : a = b
    · subst he; omega
    · have := ih (by omega) (by omega); omega
theorem endsUp_at (es : List Int) : ∀ l k, endsUp l es = some k → k = if es.length = 0 then l else es.getD (es.length - 1) 0 := by
  induction es with
  | nil => intro l k h; simp [endsUp] at h; simp [h]
  | cons e r ih =>
    intro l k h
    simp only [endsUp] at h
    split at h
    · cases h
    · have := ih e k h
      rw [this]
      cases r with
      | nil => simp
      | cons f r => simp
theorem runs_nat {es : List Nat} {k : Nat} (h : runEnds (nI es) k = true) (hk : k ≤ 65536) : es.length ≤ 65536 ∧ (∀ a b, a < b → b < es.length → es.getD a 0 < es.getD b 0) ∧ endB es es.length = k := by
  have h1 : endsUp 0 (nI es) = some (k : Int) := by simpa [runEnds] using h
  have hasc := runEnds_asc h
  rw [nI_length] at hasc
  have hasc2 : ∀ a b, a < b → b < es.length → es.getD a 0 < es.getD b 0 := fun a b hab hb => by
    have := hasc a b hab hb
    rw [nI_get es a (by omega), nI_get es b hb] at this
    omega
  have hgt := endsUp_gt (nI es) 0 k h1
  rw [nI_length] at hgt
  have hge : ∀ i, i < es.length → i + 1 ≤ es.getD i 0 := by
    intro i
    induction i with
    | zero => intro hi; have := hgt 0 hi; rw [nI_get es 0 hi] at this; omega
    | succ i ih => intro hi; have := ih (by omega); have := hasc2 i (i + 1) (by omega) hi; omega
  have hlast := endsUp_at (nI es) 0 k h1
  rw [nI_length] at hlast
  have hend : endB es es.length = k := by
    unfold endB
    by_cases h0 : es.length = 0
    · rw [if_pos h0] at hlast ⊢; omega
    · rw [if_neg h0, nI_get es _ (by omega)] at hlast
      rw [if_neg h0]; omega
  refine ⟨?_, hasc2, hend⟩
  by_cases h0 : es.length = 0
  · omega
  · have := hge (es.length - 1) (by omega)
    unfold endB at hend
    rw [if_neg h0] at hend
    omega
theorem filD_I (rows : Nat) (xs : List Nat) (hb : ∀ x ∈ xs, x < 256) (hl : xs.length ≤ 16777216) (hrr : rows ≤ 65536) (h : lkOk_I rows xs = true) : FilD_I rows xs := by
  unfold lkOk_I headOk at h
  simp only [Bool.and_eq_true, Bool.not_eq_true', decide_eq_true_eq] at h
  obtain ⟨⟨hpk, hcd⟩, hOb, hOs, hOl⟩ := h
  refine ⟨hpk, ?_⟩
  have hx3 : (headOf rows xs).left.length ≤ 16777216 := Nat.le_trans (tkL_le _ _) (Nat.le_trans (tkL_le _ _) (Nat.le_trans (tkL_le _ _) hl))
  have hb3 : ∀ x ∈ (headOf rows xs).left, x < 256 := tkL_lt (tkL_lt (tkL_lt hb))
  have hk6 : cntOf rows (headOf rows xs).nulls ≤ 65536 := by unfold cntOf; omega
  unfold lkOut_I lkBase_I at *
  generalize cntOf rows (headOf rows xs).nulls = k at *
  generalize (headOf rows xs).left = x3 at *
  generalize (headOf rows xs).short = t3 at *
  generalize (headOf rows xs).codec = cd at *
  generalize (headOf rows xs).wd = wd at *
  have hcdk : 1 ≤ cd ∧ cd ≤ 5 := by
    unfold isCodec at hcd
    split at hcd
    · omega
    · simp only [decide_eq_true_eq] at hcd; omega
  unfold outPay_I at *
  by_cases h1 : cd = 1
  · subst h1
    rw [if_pos rfl] at *
    unfold outPlain_I at *
    simp only [Bool.and_eq_true, decide_eq_true_eq] at *
    exact .inl ⟨rfl, rd_full_I hOb.1 hOs, hk6⟩
  by_cases h2 : cd = 2
  · subst h2
    rw [if_neg (by decide), if_pos rfl] at *
    unfold outDict_I at *
    split at hOb
    · cases hOb
    · rename_i hc
      rw [if_neg hc] at *
      have hxl1 : (tkL 4 x3).length ≤ 16777216 := Nat.le_trans (tkL_le _ _) hx3
      have hxb1 : ∀ x ∈ tkL 4 x3, x < 256 := tkL_lt hb3
      have hrb := (rd_left_I (L.wordOf 8 (tk 4 x3)) (tkL 4 x3) (tkS 4 x3 t3)).2 256 hxb1
      have hlb := (rd_left_I (L.wordOf 8 (tk 4 x3)) (tkL 4 x3) (tkS 4 x3 t3)).1
      have hfl := @rd_full_I (L.wordOf 8 (tk 4 x3)) (tkL 4 x3) (tkS 4 x3 t3)
      generalize rdI (L.wordOf 8 (tk 4 x3)) (tkL 4 x3) (tkS 4 x3 t3) = R at *
      generalize L.wordOf 8 (tk 4 x3) = dd at *
      obtain ⟨vals, ok, xl, s1⟩ := R
      simp only at *
      split at hOb
      · rename_i hoa
        rw [if_pos hoa] at *
        simp only at *
        obtain ⟨l1, l2, l3, l4⟩ := lanesB_true hOb
        have hs1 := (tkS_false hOs).2
        simp only [Bool.and_eq_true] at hoa
        have hvl := hfl hoa.1 hs1
        refine .inr (.inr ⟨.inl rfl, by first | trivial | rfl, (okPack_nat _ l1 l2).2 l3, restW_lt hrb, ?_, by omega, hk6, fun _ => asc_geI hoa.2, fun _ j hj => ?_, ?_, fun hh => absurd rfl hh⟩)
        · rw [restW_len]; omega
        · have := l4 j hj
          unfold standsB at this
          simp at this
          omega
        · unfold basePay okI; simp
      · cases hOb
  by_cases h3 : cd = 3
  · subst h3
    rw [if_neg (by decide), if_neg (by decide), if_pos rfl] at *
    unfold outRuns_I at *
    split at hOb
    · cases hOb
    · rename_i hc
      rw [if_neg hc] at *
      have hfl := @rd_full_I (L.wordOf 8 (tk 4 x3)) (tkL (4 * L.wordOf 8 (tk 4 x3)) (tkL 4 x3)) (tkS (4 * L.wordOf 8 (tk 4 x3)) (tkL 4 x3) (tkS 4 x3 t3))
      have hsh := rd_short_I (L.wordOf 8 (tk 4 x3)) (tkL (4 * L.wordOf 8 (tk 4 x3)) (tkL 4 x3)) (tkS (4 * L.wordOf 8 (tk 4 x3)) (tkL 4 x3) (tkS 4 x3 t3))
      have hel : tkS (4 * L.wordOf 8 (tk 4 x3)) (tkL 4 x3) (tkS 4 x3 t3) = false → (numL 4 (tk (4 * L.wordOf 8 (tk 4 x3)) (tkL 4 x3))).length = L.wordOf 8 (tk 4 x3) := fun h => by
        rw [numL_length, tk_len (tkS_false h).1]; omega
      generalize rdI (L.wordOf 8 (tk 4 x3)) (tkL (4 * L.wordOf 8 (tk 4 x3)) (tkL 4 x3)) (tkS (4 * L.wordOf 8 (tk 4 x3)) (tkL 4 x3) (tkS 4 x3 t3)) = R at *
      generalize numL 4 (tk (4 * L.wordOf 8 (tk 4 x3)) (tkL 4 x3)) = es at *
      generalize tkS (4 * L.wordOf 8 (tk 4 x3)) (tkL 4 x3) (tkS 4 x3 t3) = s2 at *
      generalize L.wordOf 8 (tk 4 x3) = dd at *
      obtain ⟨vals, ok, xl, s1⟩ := R
      simp only [Bool.and_eq_true] at *
      have hvl := hfl hOb.1 hOs
      have hed := hel (hsh hOs)
      have hre : runEnds (nI es) k = true := by
        cases hx : runEnds (nI es) k with
        | true => rfl
        | false => exact absurd (.inr hx) hc
      obtain ⟨r1, r2, r3⟩ := runs_nat hre hk6
      exact .inr (.inl ⟨rfl, by rw [hvl, hed], hk6, r1, r2, r3⟩)
  · rw [if_neg h1, if_neg h2, if_neg h3] at *
    have h45 : cd = 4 ∨ cd = 5 := by omega
    rcases h45 with rfl | rfl
    · rw [if_pos rfl] at *
      unfold outOff at *
      simp only at *
      obtain ⟨l1, l2, l3, l4⟩ := lanesB_true hOb
      have hbd := sgn64_bd (L.wordOf 8 (tk 8 x3))
      have hbp : basePay 4 x3 = sgn64 (L.wordOf 8 (tk 8 x3)) := if_pos rfl
      rw [hbp] at l4 ⊢
      have hxl1 : (tkL 8 x3).length ≤ 16777216 := Nat.le_trans (tkL_le _ _) hx3
      refine .inr (.inr ⟨.inr (.inl rfl), trivial, (okPack_nat _ l1 l2).2 l3, restW_lt (tkL_lt hb3), ?_, by simp, hk6, fun hh => absurd hh (by decide), fun hh => absurd hh (by decide), hbd, fun _ j hj => ?_⟩)
      · rw [restW_len]; omega
      · have := l4 j hj
        unfold standsB roomN at this
        simp at this
        omega
    · rw [if_neg (by decide)] at *
      unfold outOff at *
      simp only at *
      obtain ⟨l1, l2, l3, l4⟩ := lanesB_true hOb
      have hbp : basePay 5 x3 = 0 := if_neg (by decide)
      rw [hbp]
      refine .inr (.inr ⟨.inr (.inr rfl), trivial, (okPack_nat _ l1 l2).2 l3, restW_lt hb3, ?_, by simp, hk6, fun hh => absurd hh (by decide), fun hh => absurd hh (by decide), by unfold okI; omega, fun _ j hj => ?_⟩)
      · rw [restW_len]; omega
      · have := l4 j hj
        unfold standsB roomN at this
        simp at this
        omega
end Go.Proofs.YthonbfojpbfmgaaGreatDoor

/- What a chosen value is: the value of a row that is chosen and not NULL. -/
set_option linter.unusedVariables false
set_option linter.unusedSimpArgs false
set_option linter.unnecessarySimpa false
set_option maxRecDepth 20000
namespace Go.Proofs.YthonbfojpbfmgaaGreatDoor
open Go.RowKit

theorem chosen_lt {sel nulls : List Nat} {rows j : Nat} (hnv : ∀ x ∈ nulls, x < 18446744073709551616) (hsr : ∀ r, bitOf sel r = true → r < rows) (h : j ∈ chosenN sel nulls (64 * sel.length)) : ∃ r, r < rows ∧ bitOf sel r = true ∧ bitOf nulls r = false ∧ j = r - rankN nulls (r + 1) := by
  unfold chosenN at h
  rw [List.mem_map] at h
  obtain ⟨r, hr, rfl⟩ := h
  obtain ⟨_, hb⟩ := idx_lt _ _ _ hr
  rw [cmb_bit sel nulls hnv, Bool.and_eq_true, Bool.not_eq_true'] at hb
  exact ⟨r, hsr r hb.1, hb.1, hb.2, rfl⟩
theorem filter_range (p : Nat → Bool) {m n : Nat} (h : n ≤ m) (hp : ∀ r, p r = true → r < n) : (List.range m).filter p = (List.range n).filter p := by
  obtain ⟨d, rfl⟩ := Nat.exists_eq_add_of_le h
  clear h
  induction d with
  | zero => rfl
  | succ d ih =>
    rw [← Nat.add_assoc, List.range_succ, List.filter_append, ih]
    have : List.filter p [n + d] = [] := by
      rw [List.filter_eq_nil_iff]
      intro a ha
      rw [List.mem_singleton] at ha
      subst ha
      intro hc
      have := hp _ hc
      omega
    rw [this, List.append_nil]
end Go.Proofs.YthonbfojpbfmgaaGreatDoor
