/- Numbers put behind bytes, in the code and in the plain answer; cells by their three fields. -/
import Derived.Test.YthonbfojpbfmgaaGreatDoorLawfolduptoB15
import Derived.Test.YthonbfojpbfmgaaGreatDoorLawfolduptoB4
import Derived.Test.YthonbfojpbfmgaaGreatDoorLawfolduptoB7
import Derived.Lib.ConvBytes
import Derived.Lib.AppendStr
import Derived.Test.YthonbfojpbfmgaaGreatDoorLawfolduptoB2
import Derived.WalkLawsBesides
import Derived.Laws.StructEq
set_option linter.unusedVariables false
set_option linter.unusedSimpArgs false
set_option linter.unnecessarySimpa false
set_option maxRecDepth 100000
namespace Go.Proofs.YthonbfojpbfmgaaGreatDoor
open Go.RowKit

/-- a cell: is it NULL, its integer, its string -/
structure C3 where
  n : Bool
  i : Int
  s : ByteArray
def C3.vs (c : C3) : List Value := [.bool c.n, .int .i64 c.i, .string c.s]
def C3.v (c : C3) : Value := .agg #[.bool c.n, .int .i64 c.i, .string c.s]
def C3.df : C3 := ⟨false, 0, ByteArray.empty⟩
def cells3 (cs : List C3) : List Value := cs.flatMap C3.vs
theorem cells3_cons (c : C3) (cs : List C3) : cells3 (c :: cs) = c.vs ++ cells3 cs := by simp [cells3]
theorem C3.vs_length (c : C3) : c.vs.length = 3 := rfl
theorem cells3_get (cs : List C3) : ∀ k, k < cs.length → (cells3 cs)[k * 3]? = some (.bool (cs.getD k C3.df).n) ∧ (cells3 cs)[k * 3 + 1]? = some (.int .i64 (cs.getD k C3.df).i) ∧ (cells3 cs)[k * 3 + 2]? = some (.string (cs.getD k C3.df).s) := by
  induction cs with
  | nil => intro k hk; simp at hk
  | cons c r ih =>
    intro k hk
    rw [cells3_cons]
    cases k with
    | zero => simp [C3.vs]
    | succ k =>
      obtain ⟨h1, h2, h3⟩ := ih k (by simpa using hk)
      rw [List.getElem?_append_right (by rw [C3.vs_length]; omega), List.getElem?_append_right (by rw [C3.vs_length]; omega), List.getElem?_append_right (by rw [C3.vs_length]; omega)]
      simp only [C3.vs_length, List.getD_cons_succ]
      rw [show (k + 1) * 3 - 3 = k * 3 by omega, show (k + 1) * 3 + 1 - 3 = k * 3 + 1 by omega, show (k + 1) * 3 + 2 - 3 = k * 3 + 2 by omega]
      exact ⟨h1, h2, h3⟩
theorem Seg.c3 {w : World} {b o : Nat} {cs : List C3} (h : Seg w b o (cells3 cs)) (k : Nat) (hk : k < cs.length) :
    w.cell? ⟨b, o + k * 3, none⟩ = some (.bool (cs.getD k C3.df).n) ∧ w.cell? ⟨b, o + k * 3 + 1, none⟩ = some (.int .i64 (cs.getD k C3.df).i) ∧ w.cell? ⟨b, o + k * 3 + 2, none⟩ = some (.string (cs.getD k C3.df).s) := by
  obtain ⟨g0, g1, g2⟩ := cells3_get cs k hk
  exact ⟨h _ _ g0, h _ _ g1, h _ _ g2⟩

/-- what lengthening a list v leaves: every old block but v's own stands, and the answer lies in v's own block or in a new one -/
def Kp (v : Value) (w w' : World) (r : Value) : Prop := (∀ k, k < w.heap.size → some k ≠ v.ownBlock → w'.heap[k]? = w.heap[k]?) ∧ (∀ k, r.ownBlock = some k → some k = v.ownBlock ∨ w.heap.size ≤ k)
theorem Kp.refl (v : Value) (w : World) : Kp v w w v := ⟨fun _ _ _ => rfl, fun k h => .inl h.symm⟩
theorem Kp.below {v : Value} {w w' : World} (h : Below w.heap.size w w') : Kp v w w' v := ⟨fun k hk _ => h.block k hk, fun k h => .inl h.symm⟩
theorem Kp.trans {v r1 r2 : Value} {w w1 w2 : World} (h1 : Kp v w w1 r1) (h2 : Kp r1 w1 w2 r2) (hs : w.heap.size ≤ w1.heap.size) : Kp v w w2 r2 := by
  refine ⟨fun k hk hne => ?_, fun k hk => ?_⟩
  · rw [h2.1 k (by omega) (fun he => ?_), h1.1 k hk hne]
    rcases h1.2 k he.symm with h | h
    · exact hne h
    · omega
  · rcases h2.2 k hk with h | h
    · exact h1.2 k h.symm
    · exact .inr (by omega)
/-- a list that is read stays, whatever is put behind v -/
def Stay (B : Nat) (v : Value) (w : World) (u : Value) (n sz : Nat) (cs : List Value) : Prop := ∀ w' r, Below B w w' → Kp v w w' r → Rd w' u n sz cs
theorem Stay.low {B : Nat} {v : Value} {w0 w : World} {u : Value} {n sz : Nat} {cs : List Value} (h : Rd w0 u n sz cs) (hb : Below w0.heap.size w0 w) (hB : w0.heap.size ≤ B) : Stay B v w u n sz cs :=
  fun w' _ h1 _ => h.mono (hb.trans (h1.mono hB))
theorem Stay.own {B B2 : Nat} {v : Value} {w : World} {u : Value} {n sz : Nat} {e : TypeId} {cs : List Value} (h : w.ownsRow B2 e sz u n cs) (hr : Rd w u n sz cs) (hv : ∀ k, v.ownBlock = some k → k < B2) : Stay B v w u n sz cs := by
  intro w' r _ hk
  refine hr.keep (fun k hku => ?_)
  refine hk.1 k (h.lt k hku).2 (fun he => ?_)
  have h1 := hv k he.symm
  have h2 := (h.lt k hku).1
  omega
/-- a list of bytes of the call's own -/
def OwnB (B : Nat) (w : World) (v : Value) (bs : List Nat) : Prop := w.ownsRow B 5 1 v bs.length (u8s bs)
theorem OwnB.form {B : Nat} {w : World} {v : Value} {bs : List Nat} (h : OwnB B w v bs) : ∃ A c, v = .slice A bs.length c := by
  obtain ⟨A, c, rfl, _⟩ := owns_form h
  exact ⟨A, c, rfl⟩
theorem OwnB.nil (B : Nat) (w : World) : OwnB B w (.slice none 0 0) [] := World.ownsRow_nil _ _ _ _
end Go.Proofs.YthonbfojpbfmgaaGreatDoor

/- Package chunk: lists of values put behind bytes. -/
set_option linter.unusedVariables false
set_option linter.unusedSimpArgs false
set_option linter.unnecessarySimpa false
set_option maxRecDepth 100000
namespace Go.Proofs.YthonbfojpbfmgaaGreatDoor
open Go.RowKit

theorem OwnB.below {B : Nat} {w w' : World} {v : Value} {bs : List Nat} (h : OwnB B w v bs) (hb : Below w.heap.size w w') : OwnB B w' v bs := owns_below h hb
theorem Rd.atS {w : World} {D : Option Addr} {n m cd : Nat} {xs : List ByteArray} (h : Rd w (.slice D n cd) m 1 (strs xs)) (h0 : 0 < m) : ∃ b o, D = some ⟨b, o, none⟩ ∧
    ∀ k, k < xs.length → w.cell? ⟨b, o + k, none⟩ = some (.string (xs.getD k default)) := by
  rcases h.2 with ⟨_, rfl⟩ | ⟨b, o, cap', he, _, _, hs⟩
  · exact absurd h0 (Nat.lt_irrefl 0)
  · injection he with e1 e2 e3
    exact ⟨b, o, e1, fun k hk => hs.str k hk⟩
end Go.Proofs.YthonbfojpbfmgaaGreatDoor

/- The plain answer: lists of values and lanes put behind bytes. -/
set_option linter.unusedVariables false
set_option linter.unusedSimpArgs false
set_option linter.unnecessarySimpa false
set_option maxRecDepth 100000
namespace Go.Proofs.YthonbfojpbfmgaaGreatDoor
open Go.RowKit

end Go.Proofs.YthonbfojpbfmgaaGreatDoor

/- The plain answer: lanes put behind bytes. -/
set_option linter.unusedVariables false
set_option linter.unusedSimpArgs false
set_option linter.unnecessarySimpa false
set_option maxRecDepth 100000
namespace Go.Proofs.YthonbfojpbfmgaaGreatDoor
open Go.RowKit

end Go.Proofs.YthonbfojpbfmgaaGreatDoor

/- Whether cells are of a kind, codecs for it; the values among cells. -/
set_option linter.unusedVariables false
set_option linter.unusedSimpArgs false
set_option linter.unnecessarySimpa false
set_option maxRecDepth 100000
namespace Go.Proofs.YthonbfojpbfmgaaGreatDoor
open Go.RowKit

end Go.Proofs.YthonbfojpbfmgaaGreatDoor

/- The plain answer: the values among cells, their extremes. -/
set_option linter.unusedVariables false
set_option linter.unusedSimpArgs false
set_option linter.unnecessarySimpa false
set_option maxRecDepth 100000
namespace Go.Proofs.YthonbfojpbfmgaaGreatDoor
open Go.RowKit

theorem take_snoc {α : Type} (cs : List α) (d : α) (t : Nat) (h : t < cs.length) : cs.take (t + 1) = cs.take t ++ [cs.getD t d] := by
  rw [List.take_succ_eq_append_getElem h]; simp [List.getD, List.getElem?_eq_getElem h]
end Go.Proofs.YthonbfojpbfmgaaGreatDoor

/- The plain answer: runs put into bytes. -/
set_option linter.unusedVariables false
set_option linter.unusedSimpArgs false
set_option linter.unnecessarySimpa false
set_option maxRecDepth 100000
namespace Go.Proofs.YthonbfojpbfmgaaGreatDoor
open Go.RowKit

/-- two lists in blocks of their own -/
def Apart (a b : Value) : Prop := ∀ k, a.ownBlock = some k → b.ownBlock ≠ some k
theorem Apart.left {a b r : Value} {w w' : World} (h : Apart a b) (hk : Kp a w w' r) (hb : ∀ k, b.ownBlock = some k → k < w.heap.size) : Apart r b := by
  intro k h1 h2
  rcases hk.2 k h1 with h3 | h3
  · exact h k h3.symm h2
  · have := hb k h2; omega
theorem Apart.right {a b r : Value} {w w' : World} (h : Apart a b) (hk : Kp b w w' r) (ha : ∀ k, a.ownBlock = some k → k < w.heap.size) : Apart a r := by
  intro k h1 h2
  rcases hk.2 k h2 with h3 | h3
  · exact h k h1 h3.symm
  · have := ha k h1; omega
/-- the places where a run ends -/
def endAt (vs : List PV) (i : Nat) : Bool := decide (i + 1 = vs.length) || !eqP (vs.getD i dfP) (vs.getD (i + 1) dfP)
def endIx (vs : List PV) (t : Nat) : List Nat := (List.range t).filter (endAt vs)
def runEndsL (vs : List PV) (t : Nat) : List Nat := (endIx vs t).map (· + 1)
def runHeads (vs : List PV) (t : Nat) : List PV := (endIx vs t).map fun i => vs.getD i dfP
theorem Apart.symm {a b : Value} (h : Apart a b) : Apart b a := fun k h1 h2 => h k h2 h1
theorem Kp.cell {v r x : Value} {w w' : World} (h : Kp v w w' r) {q o : Nat} (hc : w.cell? ⟨q, o, none⟩ = some x) (hne : some q ≠ v.ownBlock) : w'.cell? ⟨q, o, none⟩ = some x := by
  rw [World.cell?_of_block (h.1 q (World.block_lt_of_cell? w _ hc) hne)]; exact hc
end Go.Proofs.YthonbfojpbfmgaaGreatDoor
