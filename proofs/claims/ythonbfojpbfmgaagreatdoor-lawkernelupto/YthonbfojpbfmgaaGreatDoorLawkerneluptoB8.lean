/- The plain answer: runs, the walk. -/
import Derived.Test.YthonbfojpbfmgaaGreatDoorLawkerneluptoB7
import Derived.Test.YthonbfojpbfmgaaGreatDoorLawkerneluptoB4
import Derived.Test.YthonbfojpbfmgaaGreatDoorLawkerneluptoB3
import Derived.Test.YthonbfojpbfmgaaGreatDoorLawkerneluptoB1
import Derived.Test.YthonbfojpbfmgaaGreatDoorLawkerneluptoB5
import Derived.Deep.RegionHeld3
set_option linter.unusedVariables false
set_option linter.unusedSimpArgs false
set_option linter.unnecessarySimpa false
set_option maxRecDepth 100000
namespace Go.Proofs.YthonbfojpbfmgaaGreatDoor
open Go.RowKit

theorem ends_len (m p : Nat) (xs : List Nat) (h : numsOk 4 m p xs.length = true) : (numL 4 (tk (4 * m) (xs.drop p))).length = m := by
  unfold numsOk at h; simp only [decide_eq_true_eq] at h
  rw [numL_length]; unfold tk; rw [if_pos (by rw [List.length_drop]; exact h.2), List.length_take, List.length_drop, Nat.min_eq_left (by omega)]
  omega
end Go.Proofs.YthonbfojpbfmgaaGreatDoor

/- The plain answer: whole payloads. -/
set_option linter.unusedVariables false
set_option linter.unusedSimpArgs false
set_option linter.unnecessarySimpa false
set_option maxRecDepth 100000
namespace Go.Proofs.YthonbfojpbfmgaaGreatDoor
open Go.RowKit

def payR (kd cd wd k p : Nat) (xs : List Nat) : Bool × List PV :=
  if cd = 2 then dictR kd wd k p xs
  else if cd = 3 then ((runsR kd k p xs).1 && decide (wd = 0), (runsR kd k p xs).2)
  else if cd = 4 then (if numOk 8 p xs.length = false ∨ 64 < wd ∨ ¬ kd = 1 then (false, []) else
    (fits (sgn64 (L.wordOf 8 ((xs.drop p).take 8))) (lanesV wd k (p + 8) xs) && lanesOk wd k (p + 8) xs, (sumsL (sgn64 (L.wordOf 8 ((xs.drop p).take 8))) (lanesV wd k (p + 8) xs)).map pI))
  else if cd = 5 then (if 64 < wd ∨ ¬ kd = 1 then (false, []) else (fits 0 (lanesV wd k p xs) && lanesOk wd k p xs, (sumsL 0 (lanesV wd k p xs)).map pI))
  else (listOk kd k p xs && decide (listNx kd k p xs = xs.length) && decide (cd = 1) && decide (wd = 0), listP kd k p xs)
end Go.Proofs.YthonbfojpbfmgaaGreatDoor

/- The plain answer's Compare, and the bitmaps that it makes. -/
set_option linter.unusedVariables false
set_option linter.unusedSimpArgs false
set_option linter.unnecessarySimpa false
set_option maxRecDepth 20000
namespace Go.Proofs.YthonbfojpbfmgaaGreatDoor
open Go.RowKit

def standsS (op sign : Int) : Bool :=
  if op = 1 then decide (sign = 0) else if op = 2 then decide (sign ≠ 0) else if op = 3 then decide (sign < 0) else if op = 4 then decide (sign ≤ 0) else if op = 5 then decide (0 < sign) else decide (op = 6) && decide (0 ≤ sign)
def bools (fl : List Bool) : List Value := fl.map Value.bool
theorem bools_get (fl : List Bool) (i : Nat) (h : i < fl.length) : (bools fl)[i]? = some (.bool (fl.getD i false)) := by
  simp [bools, List.getElem?_eq_getElem h, List.getD]

end Go.Proofs.YthonbfojpbfmgaaGreatDoor

/- The plain answer's isBitmap and Indexes. -/
set_option linter.unusedVariables false
set_option linter.unusedSimpArgs false
set_option linter.unnecessarySimpa false
set_option maxRecDepth 20000
namespace Go.Proofs.YthonbfojpbfmgaaGreatDoor
open Go.RowKit

theorem isPack_of_bits {n : Nat} {ws : List Nat} (hl : ws.length = L.nWords 1 n) (hv : ∀ x ∈ ws, x < 18446744073709551616) (h : ∀ i, n ≤ i → i < 64 * ws.length → bitOf ws i = false) : L.IsPack 1 n ws := by
  refine ⟨hl, fun k hk => ?_⟩
  have hx : ws.getD k 0 < 2 ^ 64 := by apply hv; simp [List.getD, List.getElem?_eq_getElem hk]
  have he : L.inWord 1 n k * 1 = min 64 (n - k * 64) := by simp [L.inWord]
  rw [he]
  by_cases h64 : 64 ≤ n - k * 64
  · rw [Nat.min_eq_left h64]; exact hx
  · rw [Nat.min_eq_right (by omega)]
    apply Nat.lt_pow_two_of_testBit
    intro i hi
    by_cases hi64 : i < 64
    · have h1 := h (64 * k + i) (by omega) (by omega)
      unfold bitOf at h1
      rwa [show (64 * k + i) / 64 = k from by omega, show (64 * k + i) % 64 = i from by omega] at h1
    · exact Nat.testBit_lt_two_pow (Nat.lt_of_lt_of_le hx (Nat.pow_le_pow_right (by omega) (by omega)))

/-- the places below n at which a bit is set -/
def idxN (ws : List Nat) (n : Nat) : List Nat := (List.range n).filter (bitOf ws)
def ints (l : List Nat) : List Value := l.map fun n : Nat => Value.int .i64 (n : Int)
theorem idxN_length (ws : List Nat) (n : Nat) : (idxN ws n).length = rankN ws n := rfl
theorem idxN_snoc (ws : List Nat) (n : Nat) : idxN ws (n + 1) = idxN ws n ++ if bitOf ws n then [n] else [] := by
  unfold idxN
  rw [List.range_succ, List.filter_append]
  cases h : bitOf ws n <;> simp [List.filter_cons, h]
theorem idxN_le (ws : List Nat) (n : Nat) : (idxN ws n).length ≤ n := by
  have := List.length_filter_le (bitOf ws) (List.range n)
  rwa [List.length_range] at this
theorem Tryz.infoInt : (Tryz.prog.info? 3).map (fun i => (i.zero, i.size, i.bytes)) = some (some (.int .i64 0), 1, 8) := by kernel_rfl
theorem ints_snoc (l : List Nat) (x : Nat) : ints (l ++ [x]) = ints l ++ [.int .i64 (x : Int)] := by simp [ints]
end Go.Proofs.YthonbfojpbfmgaaGreatDoor

/- The plain answer's Rank; bitvec's setPlaces and Indexes. -/
set_option linter.unusedVariables false
set_option linter.unusedSimpArgs false
set_option linter.unnecessarySimpa false
set_option maxRecDepth 20000
namespace Go.Proofs.YthonbfojpbfmgaaGreatDoor
open Go.RowKit

theorem idxN_gap (xs : List Nat) (t : Nat) : ∀ d, (∀ p, t ≤ p → p < t + d → bitOf xs p = false) → idxN xs (t + d) = idxN xs t
  | 0, _ => rfl
  | d + 1, h => by
    rw [← Nat.add_assoc, idxN_snoc, h (t + d) (by omega) (by omega), idxN_gap xs t d (fun p h1 h2 => h p h1 (by omega))]
    simp
theorem ctz_below (x : Nat) (h0 : x ≠ 0) (h : x < 18446744073709551616) (p : Nat) (hp : p < Lib.ctz 64 x) : x.testBit p = false := by
  obtain ⟨m, hm, hk⟩ := ctz_form x h0 h
  generalize Lib.ctz 64 x = t at *
  have hlt : 2 ^ t < 2 ^ (t + 1) := Nat.pow_lt_pow_right (by omega) (by omega)
  rw [hm, Nat.add_comm, Nat.testBit_two_pow_mul_add _ hlt, Nat.testBit_two_pow, if_pos (by omega)]
  simp; omega
/-- the bits of the word k that are still to come -/
def Rest (xs : List Nat) (k t y : Nat) : Prop := t ≤ 64 ∧ y < 18446744073709551616 ∧ ∀ p, p < 64 → y.testBit p = (bitOf xs (64 * k + p) && decide (t ≤ p))
theorem rest_zero {xs : List Nat} {k t : Nat} (h : Rest xs k t 0) : idxN xs (64 * (k + 1)) = idxN xs (64 * k + t) := by
  rw [show 64 * (k + 1) = 64 * k + t + (64 - t) from by have := h.1; omega]
  refine idxN_gap xs _ _ (fun p h1 h2 => ?_)
  have h3 := h.1
  have := h.2.2 (p - 64 * k) (by omega)
  rw [Nat.zero_testBit, show 64 * k + (p - 64 * k) = p from by omega] at this
  simpa [show t ≤ p - 64 * k from by omega] using this.symm
theorem rest_next {xs : List Nat} {k t y : Nat} (h : Rest xs k t y) (h0 : y ≠ 0) : idxN xs (64 * k + (Lib.ctz 64 y + 1)) = idxN xs (64 * k + t) ++ [64 * k + Lib.ctz 64 y] ∧ Rest xs k (Lib.ctz 64 y + 1) (y &&& (y - 1)) ∧ Lib.ctz 64 y < 64 ∧ (y &&& (y - 1)) < y := by
  obtain ⟨ht, hy, hb⟩ := h
  have hk : Lib.ctz 64 y < 64 := (Lib.lowest_bit 64 y h0 hy).2
  have hcl := clear_lowest y h0 hy
  have hbel := ctz_below y h0 hy
  have hset : bitOf xs (64 * k + Lib.ctz 64 y) = true ∧ t ≤ Lib.ctz 64 y := by
    have := hb (Lib.ctz 64 y) hk
    rw [(hcl 0).2.1] at this
    simpa using this.symm
  refine ⟨?_, ⟨by omega, by have := (hcl 0).2.2; omega, fun p hp => ?_⟩, hk, (hcl 0).2.2⟩
  · rw [← Nat.add_assoc, idxN_snoc, hset.1, if_pos rfl]
    congr 1
    have e : 64 * k + Lib.ctz 64 y = 64 * k + t + (Lib.ctz 64 y - t) := by omega
    rw [e]
    refine idxN_gap xs _ _ (fun p h1 h2 => ?_)
    have h3 := hbel (p - 64 * k) (by omega)
    rw [hb _ (by omega), show 64 * k + (p - 64 * k) = p from by omega] at h3
    simpa [show t ≤ p - 64 * k from by omega] using h3
  · rw [(hcl p).1, hb p hp]
    by_cases h1 : p = Lib.ctz 64 y
    · simp [h1]
    · by_cases h2 : p < Lib.ctz 64 y
      · have h3 := hbel p h2
        rw [hb p hp] at h3
        rw [h3]; simp [show ¬ Lib.ctz 64 y + 1 ≤ p from by omega]
      · simp [h1, show t ≤ p from by omega, show Lib.ctz 64 y + 1 ≤ p from by omega]
theorem rest_first (xs : List Nat) (k : Nat) (hv : ∀ x ∈ xs, x < 18446744073709551616) (hk : k < xs.length) : Rest xs k 0 (xs.getD k 0) := by
  refine ⟨by omega, hv _ (by simp [List.getD, List.getElem?_eq_getElem hk]), fun p hp => ?_⟩
  unfold bitOf
  rw [show (64 * k + p) / 64 = k from by omega, show (64 * k + p) % 64 = p from by omega]
  simp
end Go.Proofs.YthonbfojpbfmgaaGreatDoor

/- Package chunk: a value of a chunk, by its codec. -/
set_option linter.unusedVariables false
set_option linter.unusedSimpArgs false
set_option linter.unnecessarySimpa false
set_option maxRecDepth 100000
namespace Go.Proofs.YthonbfojpbfmgaaGreatDoor
open Go.RowKit

/-- a chunk in memory that was looked through, with its lists -/
structure Ck_I (w : World) (g : Nat) (rows : Int) (codec wd : Nat) (nulls : List Nat) (count : Int) (list : List Int) (ends : List Nat) (base : Int) (lanes : List Nat) : Prop where
  ex : ∃ nu lv ev nv bef, Row w g 111 (ck_I rows codec wd nu count lv ev base nv (.iface 68 (.agg #[])) bef) ∧ Rd w nu nulls.length 1 (u64s nulls) ∧ Rd w lv list.length 1 (lstI list) ∧
    Rd w ev ends.length 1 (nIs ends) ∧ Rd w nv lanes.length 1 (u64s lanes) ∧ Rd w bef nulls.length 1 (i64s (befL nulls))
theorem Ck_I.mono {w w' : World} {g : Nat} {rows : Int} {codec wd : Nat} {nulls : List Nat} {count : Int} {list : List Int} {ends : List Nat} {base : Int} {lanes : List Nat} (h : Ck_I w g rows codec wd nulls count list ends base lanes) (hb : Below w.heap.size w w') :
    Ck_I w' g rows codec wd nulls count list ends base lanes := by
  obtain ⟨nu, lv, ev, nv, bef, h1, h2, h3, h4, h5, h6⟩ := h.ex
  exact ⟨nu, lv, ev, nv, bef, h1.mono hb, h2.mono hb, h3.mono hb, h4.mono hb, h5.mono hb, h6.mono hb⟩

/-- value number j -/
def val_I (codec wd : Nat) (list : List Int) (ends : List Nat) (lanes : List Nat) (j : Nat) : Int :=
  if codec = 1 then list.getD j dfI else if codec = 2 then list.getD (L.laneOf wd lanes j) dfI else list.getD (firstGe (nI ends) ((j : Int) + 1)) dfI
/-- where it can be asked -/
def ok_I (codec wd : Nat) (list : List Int) (ends : List Nat) (lanes : List Nat) (j : Nat) : Prop :=
  (codec = 1 ∧ j < list.length) ∨ (codec = 2 ∧ L.laneOf wd lanes j < list.length ∧ wd ≤ 64 ∧ (0 < wd → j / (64 / wd) < lanes.length)) ∨
    (codec = 3 ∧ firstGe (nI ends) ((j : Int) + 1) < list.length ∧ ∀ a b, a < b → b < (nI ends).length → (nI ends).getD a 0 < (nI ends).getD b 0)

end Go.Proofs.YthonbfojpbfmgaaGreatDoor
