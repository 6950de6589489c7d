/- Package wire: bytes, numbers, the reader that hands them out. -/
import Derived.Test.YtdlkdiaobbakiaaGreatDoorBva
import Derived.Deep.RegionWith
set_option linter.unusedVariables false
set_option linter.unusedSimpArgs false
set_option linter.unnecessarySimpa false
namespace Go.Proofs.YtdlkdiaobbakiaaGreatDoor
open Go.RowKit

def u8 (n : Nat) : Value := .int .u8 (n : Int)
def u8s (xs : List Nat) : List Value := xs.map u8
theorem u8s_length (xs : List Nat) : (u8s xs).length = xs.length := by simp [u8s]
theorem u8s_get (xs : List Nat) (i : Nat) (h : i < xs.length) : (u8s xs)[i]? = some (.int .u8 ((xs.getD i 0 : Nat) : Int)) := by
  simp [u8s, u8, List.getElem?_eq_getElem h, List.getD]
theorem u8s_append (xs ys : List Nat) : u8s (xs ++ ys) = u8s xs ++ u8s ys := by simp [u8s]
theorem oneCell_u8s (xs : List Nat) : ∀ u ∈ u8s xs, u.oneCell' = true := by
  intro u hu; simp only [u8s, List.mem_map] at hu; obtain ⟨n, _, rfl⟩ := hu; rfl
theorem Seg.byte {w : World} {b o : Nat} {xs : List Nat} (h : Seg w b o (u8s xs)) (i : Nat) (hi : i < xs.length) : w.cell? ⟨b, o + i, none⟩ = some (.int .u8 ((xs.getD i 0 : Nat) : Int)) :=
  h i _ (u8s_get xs i hi)

/-- Every block but a and b stands as it did. -/
structure Chg (a b : Nat) (w w' : World) : Prop where
  os : w'.os = w.os
  tape : w'.tape = w.tape
  output : w'.output = w.output
  size : w.heap.size ≤ w'.heap.size
  block : ∀ k, k < w.heap.size → k ≠ a → k ≠ b → w'.heap[k]? = w.heap[k]?
theorem Chg.refl (a b : Nat) (w : World) : Chg a b w w := ⟨rfl, rfl, rfl, Nat.le_refl _, fun _ _ _ _ => rfl⟩
theorem Chg.trans {a b : Nat} {x y z : World} (h : Chg a b x y) (k : Chg a b y z) : Chg a b x z :=
  ⟨k.os.trans h.os, k.tape.trans h.tape, k.output.trans h.output, Nat.le_trans h.size k.size, fun i hi h1 h2 => (k.block i (Nat.lt_of_lt_of_le hi h.size) h1 h2).trans (h.block i hi h1 h2)⟩
theorem Chg.of_below {a b : Nat} {w w' : World} (h : Below w.heap.size w w') : Chg a b w w' := ⟨h.os, h.tape, h.output, h.size, fun k hk _ _ => h.block k hk⟩
theorem Chg.drewN {a b : Nat} {w w' : World} (h : Chg a b w w') (n : Nat) : Chg a b w (w'.drewN n) := h.trans (Chg.of_below (bdrew (brefl w') n))
theorem Chg.setCell {a b : Nat} {w w' : World} (h : Chg a b w w') (g o : Nat) (v : Value) (hg : g = a ∨ g = b) : Chg a b w (w'.setCell ⟨g, o, none⟩ v) :=
  ⟨by rw [← h.os]; rfl, by rw [← h.tape]; rfl, by rw [← h.output]; rfl, by simpa [World.setCell] using h.size, fun k hk h1 h2 => by
    rw [heap_setCell_other w' ⟨g, o, none⟩ k v (by rcases hg with rfl | rfl <;> simpa)]; exact h.block k hk h1 h2⟩
theorem Chg.wide {a b : Nat} {w w' : World} (h : Chg a a w w') : Chg a b w w' := ⟨h.os, h.tape, h.output, h.size, fun k hk h1 _ => h.block k hk h1 h1⟩
theorem Chg.wide' {a b : Nat} {w w' : World} (h : Chg b b w w') : Chg a b w w' := ⟨h.os, h.tape, h.output, h.size, fun k hk _ h1 => h.block k hk h1 h1⟩
theorem Chg.below {a b B : Nat} {w0 w w' : World} (h : Chg a b w w') (h0 : Below B w0 w) (hB : B ≤ w.heap.size) (ha : B ≤ a) (hb : B ≤ b) : Below B w0 w' :=
  h0.trans ⟨h.os, h.tape, h.output, h.size, fun k hk => h.block k (by omega) (by omega) (by omega)⟩
theorem Chg.then_below {a b p : Nat} {x y z : World} (h : Chg a b x y) (k : Below p y z) (hp : x.heap.size ≤ p) : Chg a b x z :=
  ⟨k.os.trans h.os, k.tape.trans h.tape, k.output.trans h.output, Nat.le_trans h.size k.size, fun i hi h1 h2 => (k.block i (Nat.lt_of_lt_of_le hi hp)).trans (h.block i hi h1 h2)⟩
theorem Chg.row {a b : Nat} {w w' : World} (h : Chg a b w w') {k : Nat} {e : TypeId} {cs : List Value} (hr : Row w k e cs) (h1 : k ≠ a) (h2 : k ≠ b) : Row w' k e cs := by
  unfold Row; rw [h.block k hr.lt h1 h2]; exact hr
theorem Chg.cell {a b : Nat} {w w' : World} (h : Chg a b w w') (k o : Nat) (hk : k < w.heap.size) (h1 : k ≠ a) (h2 : k ≠ b) : w'.cell? ⟨k, o, none⟩ = w.cell? ⟨k, o, none⟩ :=
  World.cell?_of_block (w := w) (h.block k hk h1 h2)
theorem Row.drewN {w : World} {g : Nat} {e : TypeId} {cs : List Value} (h : Row w g e cs) (n : Nat) : Row (w.drewN n) g e cs := h.mono (bdrew (brefl w) n)

set_option maxHeartbeats 400000 in
/-- bytes as one number, the lowest first -/
theorem number_any (v : Value) (xs : List Nat) (w : World) (hx : Rd w v xs.length 1 (u8s xs)) (hl : xs.length ≤ 8) (hv : ∀ x ∈ xs, x < 256) :
    Calls Tryz.prog 90 #[v] w fun e w' => e = .returned (.int .u64 (L.wordOf 8 xs : Nat)) ∧ w' = w := by
  obtain ⟨A, ca, rfl, hlc, hcm, hA⟩ := hx.form
  clear hx
  go_enter Tryz.func90, Tryz.ntmps90
  go_wp2
  go_loop [3, 8] (fun u i => ∃ j : Nat, j ≤ xs.length ∧ i = .int .i64 j ∧ u = .int .u64 (L.wordOf 8 (xs.take j) : Nat)) (fun _ i => xs.length - (intOf i).toNat)
  case atStart => exact ⟨0, by omega, rfl, by simp [L.wordOf]⟩
  case round =>
    obtain ⟨j, hj, rfl, rfl⟩ := hrel
    have hlt64 : L.wordOf 8 (xs.take j) < 2 ^ (8 * j) := by
      have := L.wordOf_lt 8 (xs.take j) fun x hx => hv x (List.mem_of_mem_take hx)
      rwa [List.length_take, Nat.min_eq_left hj] at this
    by_cases hlt : j < xs.length
    · obtain ⟨b, o, rfl, hs⟩ := hA (by omega)
      have c1 := hs.byte j hlt
      have hvj : xs.getD j 0 < 2 ^ 8 := hv _ (by simp [List.getD, List.getElem?_eq_getElem hlt])
      have hsn : L.wordOf 8 (xs.take (j + 1)) = L.wordOf 8 (xs.take j) + xs.getD j 0 * 2 ^ (8 * j) := by
        rw [List.take_succ_eq_append_getElem hlt, L.wordOf_snoc, List.length_take, Nat.min_eq_left hj]
        simp [List.getD, List.getElem?_eq_getElem hlt]
      have HO := hid (or_lane (L.wordOf 8 (xs.take j)) (xs.getD j 0) 8 j hlt64 hvj (by omega))
      rw [← hsn] at HO
      obtain ⟨q, hq⟩ : ∃ q, 8 * j = q := ⟨_, rfl⟩
      have hq' : (8 : Int) * (j : Int) = (q : Int) := by rw [← hq]; simp
      have hq64 : q ≤ 64 := by omega
      rw [Nat.mul_comm j 8, hq] at HO
      have hvj' : xs.getD j 0 < 256 := hvj
      clear hq hsn hA hs hv hvj hlt64
      generalize xs.getD j 0 = p at *
      generalize L.wordOf 8 (xs.take j) = a at *
      go_wp2
      go_round
      case rel => exact ⟨j + 1, by omega, by go_num, by rw [HO.out]⟩
      case measure => simp [intOf]; omega
    · go_wp2
      go_ret
      rw [show j = xs.length from by omega, List.take_length]
      exact ⟨rfl, rfl⟩

/-- what the reader hands out, and what it is behind that -/
def tk (n : Nat) (xs : List Nat) : List Nat := if n ≤ xs.length then xs.take n else []
def tkL (n : Nat) (xs : List Nat) : List Nat := if n ≤ xs.length then xs.drop n else []
def tkS (n : Nat) (xs : List Nat) (s : Bool) : Bool := if n ≤ xs.length then s else true
end Go.Proofs.YtdlkdiaobbakiaaGreatDoor
