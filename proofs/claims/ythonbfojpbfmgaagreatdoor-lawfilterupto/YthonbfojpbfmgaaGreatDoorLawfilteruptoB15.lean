/- Package chunk: lists of values put behind bytes. -/
import Derived.Test.YthonbfojpbfmgaaGreatDoorLawfilteruptoB14
import Derived.Lib.AppendStr
import Derived.Test.YthonbfojpbfmgaaGreatDoorLawfilteruptoB3
import Derived.Test.YthonbfojpbfmgaaGreatDoorLawfilteruptoB2
import Derived.WalkLawsBesides
import Derived.Laws.StructEq
set_option linter.unusedVariables false
set_option linter.unusedSimpArgs false
set_option linter.unnecessarySimpa false
set_option maxRecDepth 100000
namespace Go.Proofs.YthonbfojpbfmgaaGreatDoor
open Go.RowKit

theorem OwnB.below {B : Nat} {w w' : World} {v : Value} {bs : List Nat} (h : OwnB B w v bs) (hb : Below w.heap.size w w') : OwnB B w' v bs := owns_below h hb
theorem Rd.atS {w : World} {D : Option Addr} {n m cd : Nat} {xs : List ByteArray} (h : Rd w (.slice D n cd) m 1 (strs xs)) (h0 : 0 < m) : ∃ b o, D = some ⟨b, o, none⟩ ∧
    ∀ k, k < xs.length → w.cell? ⟨b, o + k, none⟩ = some (.string (xs.getD k default)) := by
  rcases h.2 with ⟨_, rfl⟩ | ⟨b, o, cap', he, _, _, hs⟩
  · exact absurd h0 (Nat.lt_irrefl 0)
  · injection he with e1 e2 e3
    exact ⟨b, o, e1, fun k hk => hs.str k hk⟩
end Go.Proofs.YthonbfojpbfmgaaGreatDoor

/- The plain answer: lists of values and lanes put behind bytes. -/
set_option linter.unusedVariables false
set_option linter.unusedSimpArgs false
set_option linter.unnecessarySimpa false
set_option maxRecDepth 100000
namespace Go.Proofs.YthonbfojpbfmgaaGreatDoor
open Go.RowKit

end Go.Proofs.YthonbfojpbfmgaaGreatDoor

/- The plain answer: lanes put behind bytes. -/
set_option linter.unusedVariables false
set_option linter.unusedSimpArgs false
set_option linter.unnecessarySimpa false
set_option maxRecDepth 100000
namespace Go.Proofs.YthonbfojpbfmgaaGreatDoor
open Go.RowKit

end Go.Proofs.YthonbfojpbfmgaaGreatDoor

/- Whether cells are of a kind, codecs for it; the values among cells. -/
set_option linter.unusedVariables false
set_option linter.unusedSimpArgs false
set_option linter.unnecessarySimpa false
set_option maxRecDepth 100000
namespace Go.Proofs.YthonbfojpbfmgaaGreatDoor
open Go.RowKit

/-- is a cell of the kind? -/
def ofK (k : Int) (c : C3) : Bool :=
  if c.n = true then isKind k && (decide (c.i = 0) && c.s.toList.isEmpty) else if k = 1 then c.s.toList.isEmpty else decide (k = 2 ∧ c.i = 0 ∧ c.s.size ≤ 1024)
set_option maxHeartbeats 1000000 in
theorem refOfKind_any (c : C3) (k : Int) (w : World) : Calls Tryz.prog 116 #[c.v, .int .i64 k] w fun e w' => e = .returned (.bool (ofK k c)) ∧ Below w.heap.size w w' := by
  obtain ⟨b, i, s⟩ := c
  unfold C3.v ofK
  simp only
  go_enter Tryz.func116, Tryz.ntmps116
  cases b
  · by_cases h1 : k = 1
    · go_wp2
      go_ret
      exact ⟨ret_bool (by simp [h1]), (brefl w).alloc (Nat.le_refl _) _⟩
    · go_wp2 <;> (go_ret; exact ⟨ret_bool (by simp [*] <;> omega), (brefl w).alloc (Nat.le_refl _) _⟩)
  · have HK := hid (fun w2 : World => kindOK_any k w2)
    generalize isKind k = kk at *
    cases kk
    · go_wp2_with (go_at_call 39; refine (HK.out _).mono ?_; rintro e w1 ⟨rfl, hw⟩; replace hw := hw.symm; subst hw)
      go_ret
      exact ⟨ret_bool (by simp), (brefl w).alloc (Nat.le_refl _) _⟩
    · go_wp2_with (go_at_call 39; refine (HK.out _).mono ?_; rintro e w1 ⟨rfl, hw⟩; replace hw := hw.symm; subst hw)
      all_goals (go_ret; exact ⟨ret_bool (by simp [*]), (brefl w).alloc (Nat.le_refl _) _⟩)
set_option maxHeartbeats 1000000 in
theorem ofKind_any (c : C3) (k : Int) (w : World) : Calls Tryz.prog 131 #[.int .i64 k, c.v] w fun e w' => e = .returned (.bool (ofK k c)) ∧ Below w.heap.size w w' := by
  obtain ⟨b, i, s⟩ := c
  unfold C3.v ofK
  simp only
  have HK := hid (fun w2 : World => IsKind_any k w2)
  generalize isKind k = kk at *
  go_enter Tryz.func131, Tryz.ntmps131
  cases b
  · clear HK
    by_cases h1 : k = 1
    · go_wp2
      go_ret
      exact ⟨ret_bool (by simp [h1]), (brefl w).alloc (Nat.le_refl _) _⟩
    · by_cases h2 : k = 2
      · subst h2
        by_cases h3 : i = 0
        · by_cases h4 : (s.size : Int) ≤ 1024 <;> go_wp2 <;> (go_ret; exact ⟨ret_bool (by simp [*]; omega), (brefl w).alloc (Nat.le_refl _) _⟩)
        · go_wp2
          go_ret
          exact ⟨ret_bool (by simp [*]), (brefl w).alloc (Nat.le_refl _) _⟩
      · go_wp2
        go_ret
        exact ⟨ret_bool (by simp [*]), (brefl w).alloc (Nat.le_refl _) _⟩
  · cases kk
    · go_wp2_with (go_at_call 27; refine (HK.out _).mono ?_; rintro e w1 ⟨rfl, hw⟩; replace hw := hw.symm; subst hw)
      go_ret
      exact ⟨ret_bool (by simp), (brefl w).alloc (Nat.le_refl _) _⟩
    · go_wp2_with (go_at_call 27; refine (HK.out _).mono ?_; rintro e w1 ⟨rfl, hw⟩; replace hw := hw.symm; subst hw)
      all_goals (go_ret; exact ⟨ret_bool (by simp [*]), (brefl w).alloc (Nat.le_refl _) _⟩)

theorem Rd.at3 {w : World} {D : Option Addr} {n m cd : Nat} {cs : List C3} (h : Rd w (.slice D n cd) m 3 (cells3 cs)) (h0 : 0 < m) : ∃ b o, D = some ⟨b, o, none⟩ ∧
    ∀ k, k < cs.length → w.cell? ⟨b, o + k * 3, none⟩ = some (.bool (cs.getD k C3.df).n) ∧ w.cell? ⟨b, o + k * 3 + 1, none⟩ = some (.int .i64 (cs.getD k C3.df).i) ∧ w.cell? ⟨b, o + k * 3 + 2, none⟩ = some (.string (cs.getD k C3.df).s) := by
  rcases h.2 with ⟨_, rfl⟩ | ⟨b, o, cap', he, _, _, hs⟩
  · exact absurd h0 (Nat.lt_irrefl 0)
  · injection he with e1 e2 e3
    exact ⟨b, o, e1, fun k hk => hs.c3 k hk⟩
end Go.Proofs.YthonbfojpbfmgaaGreatDoor

/- The plain answer: the values among cells, their extremes. -/
set_option linter.unusedVariables false
set_option linter.unusedSimpArgs false
set_option linter.unnecessarySimpa false
set_option maxRecDepth 100000
namespace Go.Proofs.YthonbfojpbfmgaaGreatDoor
open Go.RowKit

theorem take_snoc {α : Type} (cs : List α) (d : α) (t : Nat) (h : t < cs.length) : cs.take (t + 1) = cs.take t ++ [cs.getD t d] := by
  rw [List.take_succ_eq_append_getElem h]; simp [List.getD, List.getElem?_eq_getElem h]
end Go.Proofs.YthonbfojpbfmgaaGreatDoor

/- The plain answer: runs put into bytes. -/
set_option linter.unusedVariables false
set_option linter.unusedSimpArgs false
set_option linter.unnecessarySimpa false
set_option maxRecDepth 100000
namespace Go.Proofs.YthonbfojpbfmgaaGreatDoor
open Go.RowKit

/-- two lists in blocks of their own -/
def Apart (a b : Value) : Prop := ∀ k, a.ownBlock = some k → b.ownBlock ≠ some k
theorem Apart.left {a b r : Value} {w w' : World} (h : Apart a b) (hk : Kp a w w' r) (hb : ∀ k, b.ownBlock = some k → k < w.heap.size) : Apart r b := by
  intro k h1 h2
  rcases hk.2 k h1 with h3 | h3
  · exact h k h3.symm h2
  · have := hb k h2; omega
theorem Apart.right {a b r : Value} {w w' : World} (h : Apart a b) (hk : Kp b w w' r) (ha : ∀ k, a.ownBlock = some k → k < w.heap.size) : Apart a r := by
  intro k h1 h2
  rcases hk.2 k h2 with h3 | h3
  · exact h k h1 h3.symm
  · have := ha k h1; omega
theorem owns_kp {a b r : Value} {w w' : World} {B sz n : Nat} {e : TypeId} {cs : List Value} (h : w.ownsRow B e sz b n cs) (hk : Kp a w w' r) (hap : Apart a b) : w'.ownsRow B e sz b n cs :=
  owns_keep h (fun k hb => hk.1 k (h.lt k hb).2 (fun he => hap k he.symm hb))

/-- the places where a run ends -/
def endAt (vs : List PV) (i : Nat) : Bool := decide (i + 1 = vs.length) || !eqP (vs.getD i dfP) (vs.getD (i + 1) dfP)
def endIx (vs : List PV) (t : Nat) : List Nat := (List.range t).filter (endAt vs)
def runEndsL (vs : List PV) (t : Nat) : List Nat := (endIx vs t).map (· + 1)
def runHeads (vs : List PV) (t : Nat) : List PV := (endIx vs t).map fun i => vs.getD i dfP
theorem Apart.symm {a b : Value} (h : Apart a b) : Apart b a := fun k h1 h2 => h k h2 h1
theorem owns_low {w : World} {B B' sz : Nat} {e : TypeId} {v : Value} {n : Nat} {xs : List Value} (h : w.ownsRow B e sz v n xs) (hb : B' ≤ B) : w.ownsRow B' e sz v n xs := by
  refine ⟨h.1, ?_⟩
  rcases h.2 with h | ⟨g, cap, cur, rfl, h1, h2, r⟩
  · exact .inl h
  · exact .inr ⟨g, cap, cur, rfl, Nat.le_trans hb h1, h2, r⟩
theorem Kp.cell {v r x : Value} {w w' : World} (h : Kp v w w' r) {q o : Nat} (hc : w.cell? ⟨q, o, none⟩ = some x) (hne : some q ≠ v.ownBlock) : w'.cell? ⟨q, o, none⟩ = some x := by
  rw [World.cell?_of_block (h.1 q (World.block_lt_of_cell? w _ hc) hne)]; exact hc
end Go.Proofs.YthonbfojpbfmgaaGreatDoor
