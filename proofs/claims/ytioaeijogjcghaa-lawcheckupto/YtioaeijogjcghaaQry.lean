/- Queries in memory: nodes and aggregates by their fields. -/
import Derived.Test.YtioaeijogjcghaaOwn
import Derived.Test.YtioaeijogjcghaaLayC
import Derived.Test.YtioaeijogjcghaaLayI
import Derived.Test.YtioaeijogjcghaaOpr
import Derived.Deep.QuietTactic
import Derived.Deep.RegionHeld3
import Derived.Deep.CutRange
import Derived.BigQuiet
import Derived.BigRegion
set_option linter.unusedVariables false
set_option linter.unusedSimpArgs false
set_option linter.unnecessarySimpa false
set_option maxRecDepth 20000
namespace Go.Proofs.Ytioaeijogjcghaa
open Go.RowKit

/-- a node: its op, its column, its literals -/
structure Nd where
  op : Int
  col : Int
  args : List C3
def Nd.df : Nd := ⟨0, 0, []⟩
/-- an aggregate -/
structure Ag where
  fn : Int
  col : Int
def Ag.df : Ag := ⟨0, 0⟩
/-- a list of nodes that can be read -/
def NsIn (w : World) (v : Value) (L : List Nd) : Prop :=
  ∃ (A : Option Addr) (cap : Nat), v = .slice A L.length cap ∧ L.length ≤ cap ∧ cap ≤ maxLen ∧
    ∀ k, k < L.length → ∃ (b o : Nat) (av : Value), A = some ⟨b, o, none⟩ ∧ w.cell? ⟨b, o + k * 3, none⟩ = some (.int .i64 (L.getD k Nd.df).op) ∧ w.cell? ⟨b, o + k * 3 + 1, none⟩ = some (.int .i64 (L.getD k Nd.df).col) ∧
      w.cell? ⟨b, o + k * 3 + 2, none⟩ = some av ∧ Rd w av (L.getD k Nd.df).args.length 3 (cells3 (L.getD k Nd.df).args)
theorem NsIn.mono {w w' : World} {v : Value} {L : List Nd} (h : NsIn w v L) (hb : Below w.heap.size w w') : NsIn w' v L := by
  obtain ⟨A, cap, hv, h1, h2, h3⟩ := h
  refine ⟨A, cap, hv, h1, h2, fun k hk => ?_⟩
  obtain ⟨b, o, av, hA, c0, c1, c2, hr⟩ := h3 k hk
  have hl : b < w.heap.size := World.block_lt_of_cell? w _ c0
  exact ⟨b, o, av, hA, (hb.cell (p := ⟨b, _, none⟩) hl).trans c0, (hb.cell (p := ⟨b, _, none⟩) hl).trans c1, (hb.cell (p := ⟨b, _, none⟩) hl).trans c2, hr.mono hb⟩
theorem NsIn.form {w : World} {v : Value} {L : List Nd} (h : NsIn w v L) : ∃ A cap, v = .slice A L.length cap := by
  obtain ⟨A, cap, hv, _⟩ := h; exact ⟨A, cap, hv⟩
/-- entry k, where the list is written out -/
theorem NsIn.at {w : World} {A : Option Addr} {n cap : Nat} {L : List Nd} (h : NsIn w (.slice A n cap) L) (k : Nat) (hk : k < L.length) :
    ∃ (b o : Nat) (B : Option Addr) (c : Nat), A = some ⟨b, o, none⟩ ∧ w.cell? ⟨b, o + k * 3, none⟩ = some (.int .i64 (L.getD k Nd.df).op) ∧ w.cell? ⟨b, o + k * 3 + 1, none⟩ = some (.int .i64 (L.getD k Nd.df).col) ∧
      w.cell? ⟨b, o + k * 3 + 2, none⟩ = some (.slice B (L.getD k Nd.df).args.length c) ∧ Rd w (.slice B (L.getD k Nd.df).args.length c) (L.getD k Nd.df).args.length 3 (cells3 (L.getD k Nd.df).args) := by
  obtain ⟨A', cap', hv, _, _, h3⟩ := h
  injection hv with e1 e2 e3
  subst e1
  obtain ⟨b, o, av, hA, c0, c1, c2, hr⟩ := h3 k hk
  obtain ⟨B, c, rfl, _⟩ := hr.form
  exact ⟨b, o, B, c, hA, c0, c1, c2, hr⟩
def ags (L : List Ag) : List Value := L.flatMap fun a => [.int .i64 a.fn, .int .i64 a.col]
theorem ags_length (L : List Ag) : (ags L).length = L.length * 2 := by
  induction L with
  | nil => rfl
  | cons a r ih => simp only [ags, List.flatMap_cons, List.length_append, List.length_cons, List.length_nil] at *; omega
theorem ags_append (L M : List Ag) : ags (L ++ M) = ags L ++ ags M := by simp [ags]
theorem ags_get (L : List Ag) : ∀ k, k < L.length → (ags L)[k * 2]? = some (.int .i64 (L.getD k Ag.df).fn) ∧ (ags L)[k * 2 + 1]? = some (.int .i64 (L.getD k Ag.df).col) := by
  induction L with
  | nil => intro k hk; simp at hk
  | cons c r ih =>
    intro k hk
    rw [show ags (c :: r) = [.int .i64 c.fn, .int .i64 c.col] ++ ags r by simp [ags]]
    cases k with
    | zero => simp
    | succ k =>
      obtain ⟨h1, h2⟩ := ih k (by simpa using hk)
      rw [List.getElem?_append_right (by simp only [List.length_cons, List.length_nil]; omega), List.getElem?_append_right (by simp only [List.length_cons, List.length_nil]; omega)]
      simp only [List.length_cons, List.length_nil, List.getD_cons_succ]
      rw [show (k + 1) * 2 - (0 + 1 + 1) = k * 2 by omega, show (k + 1) * 2 + 1 - (0 + 1 + 1) = k * 2 + 1 by omega]
      exact ⟨h1, h2⟩
theorem oneCell_ags (L : List Ag) : ∀ u ∈ ags L, u.oneCell' = true := by
  intro u hu
  simp only [ags, List.mem_flatMap, List.mem_cons, List.not_mem_nil, or_false] at hu
  obtain ⟨c, _, rfl | rfl⟩ := hu <;> rfl
theorem Seg.ag {w : World} {b o : Nat} {L : List Ag} (h : Seg w b o (ags L)) (k : Nat) (hk : k < L.length) :
    w.cell? ⟨b, o + k * 2, none⟩ = some (.int .i64 (L.getD k Ag.df).fn) ∧ w.cell? ⟨b, o + k * 2 + 1, none⟩ = some (.int .i64 (L.getD k Ag.df).col) := by
  obtain ⟨g0, g1⟩ := ags_get L k hk
  exact ⟨h _ _ g0, h _ _ g1⟩
theorem cell3 {w : World} {g : Nat} {e : TypeId} {a b c : Value} (h : Row w g e [a, b, c]) : w.cell? ⟨g, 0, none⟩ = some a ∧ w.cell? ⟨g, 1, none⟩ = some b ∧ w.cell? ⟨g, 2, none⟩ = some c := ⟨by rw [h.cell]; rfl, by rw [h.cell]; rfl, by rw [h.cell]; rfl⟩
theorem cellP {w : World} {g : Nat} {e : TypeId} {a b : Value} (h : Row w g e [a, b]) : w.cell? ⟨g, 0, none⟩ = some a ∧ w.cell? ⟨g, 1, none⟩ = some b := ⟨by rw [h.cell]; rfl, by rw [h.cell]; rfl⟩
/-- a variable of a call's own, laid and filled at once -/
theorem fresh {w : World} {C : Array Value} {e : TypeId} : Row (w.alloc (.cells C e)) w.heap.size e C.toList ∧ Below w.heap.size w (w.alloc (.cells C e)) := by
  refine ⟨?_, (brefl w).alloc (Nat.le_refl _) _⟩
  unfold Row; rw [heap_alloc_new]
theorem all_at {α : Type} {L : List α} {p : α → Bool} (d : α) (k : Nat) (h : L.all p = true) (hk : k < L.length) : p (L.getD k d) = true := by
  rw [List.all_eq_true] at h
  exact h _ (by simp [List.getD, List.getElem?_eq_getElem hk])
theorem all_of {α : Type} {L : List α} {p : α → Bool} (d : α) (h : ∀ k, k < L.length → p (L.getD k d) = true) : L.all p = true := by
  rw [List.all_eq_true]
  intro x hx
  obtain ⟨k, hk, rfl⟩ := List.getElem_of_mem hx
  have := h k hk
  simpa [List.getD, List.getElem?_eq_getElem hk] using this
theorem all_not {α : Type} {L : List α} {p : α → Bool} (d : α) (k : Nat) (hk : k < L.length) (h : p (L.getD k d) = false) : L.all p = false := by
  rw [← Bool.not_eq_true]
  intro h2
  rw [all_at d k h2 hk] at h
  cases h
end Go.Proofs.Ytioaeijogjcghaa
