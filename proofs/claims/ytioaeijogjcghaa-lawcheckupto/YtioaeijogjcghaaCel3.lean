/- Cells by their three fields; whether a cell is of a kind, in the code and in the plain answer. -/
import Derived.Test.YtioaeijogjcghaaBva
import Derived.Laws.StructEq
import Derived.WalkLawsBesides
set_option linter.unusedVariables false
set_option linter.unusedSimpArgs false
set_option linter.unnecessarySimpa false
set_option maxRecDepth 20000
namespace Go.Proofs.Ytioaeijogjcghaa
open Go.RowKit

/-- a cell: is it NULL, its integer, its string -/
structure C3 where
  n : Bool
  i : Int
  s : ByteArray
def C3.vs (c : C3) : List Value := [.bool c.n, .int .i64 c.i, .string c.s]
def C3.v (c : C3) : Value := .agg #[.bool c.n, .int .i64 c.i, .string c.s]
def C3.df : C3 := ⟨false, 0, ByteArray.empty⟩
def cells3 (cs : List C3) : List Value := cs.flatMap C3.vs
theorem cells3_nil : cells3 [] = [] := rfl
theorem cells3_cons (c : C3) (cs : List C3) : cells3 (c :: cs) = c.vs ++ cells3 cs := by simp [cells3]
theorem cells3_append (cs ds : List C3) : cells3 (cs ++ ds) = cells3 cs ++ cells3 ds := by simp [cells3]
theorem cells3_snoc (cs : List C3) (c : C3) : cells3 (cs ++ [c]) = cells3 cs ++ [.bool c.n, .int .i64 c.i, .string c.s] := by simp [cells3, C3.vs]
theorem C3.vs_length (c : C3) : c.vs.length = 3 := rfl
theorem cells3_length (cs : List C3) : (cells3 cs).length = cs.length * 3 := by
  induction cs with
  | nil => rfl
  | cons c r ih => rw [cells3_cons, List.length_append, ih, List.length_cons, C3.vs_length]; omega
theorem cells3_get (cs : List C3) : ∀ k, k < cs.length → (cells3 cs)[k * 3]? = some (.bool (cs.getD k C3.df).n) ∧ (cells3 cs)[k * 3 + 1]? = some (.int .i64 (cs.getD k C3.df).i) ∧ (cells3 cs)[k * 3 + 2]? = some (.string (cs.getD k C3.df).s) := by
  induction cs with
  | nil => intro k hk; simp at hk
  | cons c r ih =>
    intro k hk
    rw [cells3_cons]
    cases k with
    | zero => simp [C3.vs]
    | succ k =>
      obtain ⟨h1, h2, h3⟩ := ih k (by simpa using hk)
      rw [List.getElem?_append_right (by rw [C3.vs_length]; omega), List.getElem?_append_right (by rw [C3.vs_length]; omega), List.getElem?_append_right (by rw [C3.vs_length]; omega)]
      simp only [C3.vs_length, List.getD_cons_succ]
      rw [show (k + 1) * 3 - 3 = k * 3 by omega, show (k + 1) * 3 + 1 - 3 = k * 3 + 1 by omega, show (k + 1) * 3 + 2 - 3 = k * 3 + 2 by omega]
      exact ⟨h1, h2, h3⟩
theorem oneCell_cells3 (cs : List C3) : ∀ u ∈ cells3 cs, u.oneCell' = true := by
  intro u hu
  simp only [cells3, List.mem_flatMap, C3.vs, List.mem_cons, List.not_mem_nil, or_false] at hu
  obtain ⟨c, _, rfl | rfl | rfl⟩ := hu <;> rfl
theorem Seg.c3 {w : World} {b o : Nat} {cs : List C3} (h : Seg w b o (cells3 cs)) (k : Nat) (hk : k < cs.length) :
    w.cell? ⟨b, o + k * 3, none⟩ = some (.bool (cs.getD k C3.df).n) ∧ w.cell? ⟨b, o + k * 3 + 1, none⟩ = some (.int .i64 (cs.getD k C3.df).i) ∧ w.cell? ⟨b, o + k * 3 + 2, none⟩ = some (.string (cs.getD k C3.df).s) := by
  obtain ⟨g0, g1, g2⟩ := cells3_get cs k hk
  exact ⟨h _ _ g0, h _ _ g1, h _ _ g2⟩

def isKind (k : Int) : Bool := k == 1 || k == 2
def isRows (k : Int) : Bool := decide (0 ≤ k ∧ k ≤ 65536)
theorem isKindA (k : Int) (w : World) : Calls Try.prog 39 #[.int .i64 k] w fun e w' => e = .returned (.bool (isKind k)) ∧ w' = w := by
  go_enter Try.func39, Try.ntmps39
  unfold isKind
  by_cases h : k = 1 <;> by_cases h2 : k = 2 <;> go_wp2 <;> (go_ret; exact ⟨ret_bool (by simp [*]), rfl⟩)
theorem isRowsA (k : Int) (w : World) : Calls Try.prog 44 #[.int .i64 k] w fun e w' => e = .returned (.bool (isRows k)) ∧ w' = w := by
  go_enter Try.func44, Try.ntmps44
  unfold isRows
  go_wp2 <;> (go_ret; exact ⟨ret_bool (by simp; omega), rfl⟩)
theorem kindOKA (k : Int) (w : World) : Calls Try.prog 24 #[.int .i64 k] w fun e w' => e = .returned (.bool (isKind k)) ∧ w' = w := by
  go_enter Try.func24, Try.ntmps24
  unfold isKind
  by_cases h : k = 1 <;> by_cases h2 : k = 2 <;> go_wp2 <;> (go_ret; exact ⟨ret_bool (by simp [*]), rfl⟩)
/-- is a cell of the kind? -/
def ofK (k : Int) (c : C3) : Bool :=
  if c.n = true then isKind k && (decide (c.i = 0) && c.s.toList.isEmpty) else if k = 1 then c.s.toList.isEmpty else decide (k = 2 ∧ c.i = 0 ∧ c.s.size ≤ 1024)
set_option maxHeartbeats 1000000 in
theorem refOfKind_any (c : C3) (k : Int) (w : World) : Calls Try.prog 32 #[c.v, .int .i64 k] w fun e w' => e = .returned (.bool (ofK k c)) ∧ Below w.heap.size w w' := by
  obtain ⟨b, i, s⟩ := c
  unfold C3.v ofK
  simp only
  go_enter Try.func32, Try.ntmps32
  cases b
  · by_cases h1 : k = 1
    · go_wp2
      go_ret
      exact ⟨ret_bool (by simp [h1]), (brefl w).alloc (Nat.le_refl _) _⟩
    · go_wp2 <;> (go_ret; exact ⟨ret_bool (by simp [*] <;> omega), (brefl w).alloc (Nat.le_refl _) _⟩)
  · have HK := hid (fun w2 : World => kindOKA k w2)
    generalize isKind k = kk at *
    cases kk
    · go_wp2_with (go_at_call 24; refine (HK.out _).mono ?_; rintro e w1 ⟨rfl, hw⟩; replace hw := hw.symm; subst hw)
      go_ret
      exact ⟨ret_bool (by simp), (brefl w).alloc (Nat.le_refl _) _⟩
    · go_wp2_with (go_at_call 24; refine (HK.out _).mono ?_; rintro e w1 ⟨rfl, hw⟩; replace hw := hw.symm; subst hw)
      all_goals (go_ret; exact ⟨ret_bool (by simp [*]), (brefl w).alloc (Nat.le_refl _) _⟩)
set_option maxHeartbeats 1000000 in
theorem ofKind_any (c : C3) (k : Int) (w : World) : Calls Try.prog 45 #[.int .i64 k, c.v] w fun e w' => e = .returned (.bool (ofK k c)) ∧ Below w.heap.size w w' := by
  obtain ⟨b, i, s⟩ := c
  unfold C3.v ofK
  simp only
  have HK := hid (fun w2 : World => isKindA k w2)
  generalize isKind k = kk at *
  go_enter Try.func45, Try.ntmps45
  cases b
  · clear HK
    by_cases h1 : k = 1
    · go_wp2
      go_ret
      exact ⟨ret_bool (by simp [h1]), (brefl w).alloc (Nat.le_refl _) _⟩
    · by_cases h2 : k = 2
      · subst h2
        by_cases h3 : i = 0
        · by_cases h4 : (s.size : Int) ≤ 1024 <;> go_wp2 <;> (go_ret; exact ⟨ret_bool (by simp [*]; omega), (brefl w).alloc (Nat.le_refl _) _⟩)
        · go_wp2
          go_ret
          exact ⟨ret_bool (by simp [*]), (brefl w).alloc (Nat.le_refl _) _⟩
      · go_wp2
        go_ret
        exact ⟨ret_bool (by simp [*]), (brefl w).alloc (Nat.le_refl _) _⟩
  · cases kk
    · go_wp2_with (go_at_call 39; refine (HK.out _).mono ?_; rintro e w1 ⟨rfl, hw⟩; replace hw := hw.symm; subst hw)
      go_ret
      exact ⟨ret_bool (by simp), (brefl w).alloc (Nat.le_refl _) _⟩
    · go_wp2_with (go_at_call 39; refine (HK.out _).mono ?_; rintro e w1 ⟨rfl, hw⟩; replace hw := hw.symm; subst hw)
      all_goals (go_ret; exact ⟨ret_bool (by simp [*]), (brefl w).alloc (Nat.le_refl _) _⟩)
def isVal (k : Int) (c : C3) : Bool := !c.n && ofK k c
set_option maxHeartbeats 1000000 in
theorem isValue_any (c : C3) (k : Int) (w : World) : Calls Try.prog 35 #[.int .i64 k, c.v] w fun e w' => e = .returned (.bool (isVal k c)) ∧ Below w.heap.size w w' := by
  have HK := hid (fun w2 : World => ofKind_any c k w2)
  unfold isVal
  generalize ofK k c = kk at *
  obtain ⟨b, i, s⟩ := c
  unfold C3.v at *
  simp only at *
  go_enter Try.func35, Try.ntmps35
  cases b
  · go_wp2_with (go_at_call 45; refine (HK.out _).mono ?_; rintro e w1 ⟨rfl, hb1⟩; have HB := hid hb1; clear hb1)
    go_ret
    exact ⟨ret_bool (by simp), ((brefl w).alloc (Nat.le_refl _) _).trans (HB.out.mono (by simp))⟩
  · go_wp2
    go_ret
    exact ⟨ret_bool (by simp), (brefl w).alloc (Nat.le_refl _) _⟩
set_option maxHeartbeats 1000000 in
theorem refIsValue_any (c : C3) (k : Int) (w : World) : Calls Try.prog 37 #[c.v, .int .i64 k] w fun e w' => e = .returned (.bool (isVal k c)) ∧ Below w.heap.size w w' := by
  have HK := hid (fun w2 : World => refOfKind_any c k w2)
  unfold isVal
  generalize ofK k c = kk at *
  obtain ⟨b, i, s⟩ := c
  unfold C3.v at *
  simp only at *
  go_enter Try.func37, Try.ntmps37
  cases b
  · go_wp2_with (go_at_call 32; refine (HK.out _).mono ?_; rintro e w1 ⟨rfl, hb1⟩; have HB := hid hb1; clear hb1)
    go_ret
    exact ⟨ret_bool (by simp), ((brefl w).alloc (Nat.le_refl _) _).trans (HB.out.mono (by simp))⟩
  · go_wp2
    go_ret
    exact ⟨ret_bool (by simp), (brefl w).alloc (Nat.le_refl _) _⟩
/-- the cell that a call laid into memory of its own stands in each later world -/
theorem kept3 {w w1 : World} {x y z : Value} {e : TypeId} {B : Nat} (h : Below B (w.alloc (.cells #[x, y, z] e)) w1) (hB : w.heap.size < B) :
    w1.cell? ⟨w.heap.size, 0, none⟩ = some x ∧ w1.cell? ⟨w.heap.size, 1, none⟩ = some y ∧ w1.cell? ⟨w.heap.size, 2, none⟩ = some z := by
  have hr : Row (w.alloc (.cells #[x, y, z] e)) w.heap.size e [x, y, z] := by unfold Row; rw [heap_alloc_new]
  have hr2 := hr.below h hB
  exact ⟨by rw [hr2.cell]; rfl, by rw [hr2.cell]; rfl, by rw [hr2.cell]; rfl⟩
end Go.Proofs.Ytioaeijogjcghaa
