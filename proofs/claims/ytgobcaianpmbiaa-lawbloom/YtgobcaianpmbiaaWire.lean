/- Package wire: bytes, numbers, the reader that hands them out. -/
import Derived.Test.YtgobcaianpmbiaaBva
import Derived.Deep.RegionWith
set_option linter.unusedVariables false
set_option linter.unusedSimpArgs false
set_option linter.unnecessarySimpa false
namespace Go.Proofs.Ytgobcaianpmbiaa
open Go.RowKit

def u8 (n : Nat) : Value := .int .u8 (n : Int)
def u8s (xs : List Nat) : List Value := xs.map u8
theorem u8s_length (xs : List Nat) : (u8s xs).length = xs.length := by simp [u8s]
theorem u8s_get (xs : List Nat) (i : Nat) (h : i < xs.length) : (u8s xs)[i]? = some (.int .u8 ((xs.getD i 0 : Nat) : Int)) := by
  simp [u8s, u8, List.getElem?_eq_getElem h, List.getD]
theorem u8s_append (xs ys : List Nat) : u8s (xs ++ ys) = u8s xs ++ u8s ys := by simp [u8s]
theorem oneCell_u8s (xs : List Nat) : ∀ u ∈ u8s xs, u.oneCell' = true := by
  intro u hu; simp only [u8s, List.mem_map] at hu; obtain ⟨n, _, rfl⟩ := hu; rfl
theorem Seg.byte {w : World} {b o : Nat} {xs : List Nat} (h : Seg w b o (u8s xs)) (i : Nat) (hi : i < xs.length) : w.cell? ⟨b, o + i, none⟩ = some (.int .u8 ((xs.getD i 0 : Nat) : Int)) :=
  h i _ (u8s_get xs i hi)

/-- Every block but a and b stands as it did. -/
structure Chg (a b : Nat) (w w' : World) : Prop where
  os : w'.os = w.os
  tape : w'.tape = w.tape
  output : w'.output = w.output
  size : w.heap.size ≤ w'.heap.size
  block : ∀ k, k < w.heap.size → k ≠ a → k ≠ b → w'.heap[k]? = w.heap[k]?
theorem Chg.refl (a b : Nat) (w : World) : Chg a b w w := ⟨rfl, rfl, rfl, Nat.le_refl _, fun _ _ _ _ => rfl⟩
theorem Chg.trans {a b : Nat} {x y z : World} (h : Chg a b x y) (k : Chg a b y z) : Chg a b x z :=
  ⟨k.os.trans h.os, k.tape.trans h.tape, k.output.trans h.output, Nat.le_trans h.size k.size, fun i hi h1 h2 => (k.block i (Nat.lt_of_lt_of_le hi h.size) h1 h2).trans (h.block i hi h1 h2)⟩
theorem Chg.of_below {a b : Nat} {w w' : World} (h : Below w.heap.size w w') : Chg a b w w' := ⟨h.os, h.tape, h.output, h.size, fun k hk _ _ => h.block k hk⟩
theorem Chg.drewN {a b : Nat} {w w' : World} (h : Chg a b w w') (n : Nat) : Chg a b w (w'.drewN n) := h.trans (Chg.of_below (bdrew (brefl w') n))
theorem Chg.setCell {a b : Nat} {w w' : World} (h : Chg a b w w') (g o : Nat) (v : Value) (hg : g = a ∨ g = b) : Chg a b w (w'.setCell ⟨g, o, none⟩ v) :=
  ⟨by rw [← h.os]; rfl, by rw [← h.tape]; rfl, by rw [← h.output]; rfl, by simpa [World.setCell] using h.size, fun k hk h1 h2 => by
    rw [heap_setCell_other w' ⟨g, o, none⟩ k v (by rcases hg with rfl | rfl <;> simpa)]; exact h.block k hk h1 h2⟩
theorem Chg.wide {a b : Nat} {w w' : World} (h : Chg a a w w') : Chg a b w w' := ⟨h.os, h.tape, h.output, h.size, fun k hk h1 _ => h.block k hk h1 h1⟩
theorem Chg.wide' {a b : Nat} {w w' : World} (h : Chg b b w w') : Chg a b w w' := ⟨h.os, h.tape, h.output, h.size, fun k hk _ h1 => h.block k hk h1 h1⟩
theorem Chg.below {a b B : Nat} {w0 w w' : World} (h : Chg a b w w') (h0 : Below B w0 w) (hB : B ≤ w.heap.size) (ha : B ≤ a) (hb : B ≤ b) : Below B w0 w' :=
  h0.trans ⟨h.os, h.tape, h.output, h.size, fun k hk => h.block k (by omega) (by omega) (by omega)⟩
theorem Chg.then_below {a b p : Nat} {x y z : World} (h : Chg a b x y) (k : Below p y z) (hp : x.heap.size ≤ p) : Chg a b x z :=
  ⟨k.os.trans h.os, k.tape.trans h.tape, k.output.trans h.output, Nat.le_trans h.size k.size, fun i hi h1 h2 => (k.block i (Nat.lt_of_lt_of_le hi hp)).trans (h.block i hi h1 h2)⟩
theorem Chg.row {a b : Nat} {w w' : World} (h : Chg a b w w') {k : Nat} {e : TypeId} {cs : List Value} (hr : Row w k e cs) (h1 : k ≠ a) (h2 : k ≠ b) : Row w' k e cs := by
  unfold Row; rw [h.block k hr.lt h1 h2]; exact hr
theorem Chg.cell {a b : Nat} {w w' : World} (h : Chg a b w w') (k o : Nat) (hk : k < w.heap.size) (h1 : k ≠ a) (h2 : k ≠ b) : w'.cell? ⟨k, o, none⟩ = w.cell? ⟨k, o, none⟩ :=
  World.cell?_of_block (w := w) (h.block k hk h1 h2)
theorem Row.drewN {w : World} {g : Nat} {e : TypeId} {cs : List Value} (h : Row w g e cs) (n : Nat) : Row (w.drewN n) g e cs := h.mono (bdrew (brefl w) n)

/-- what the reader hands out, and what it is behind that -/
def tk (n : Nat) (xs : List Nat) : List Nat := if n ≤ xs.length then xs.take n else []
def tkL (n : Nat) (xs : List Nat) : List Nat := if n ≤ xs.length then xs.drop n else []
def tkS (n : Nat) (xs : List Nat) (s : Bool) : Bool := if n ≤ xs.length then s else true
end Go.Proofs.Ytgobcaianpmbiaa
