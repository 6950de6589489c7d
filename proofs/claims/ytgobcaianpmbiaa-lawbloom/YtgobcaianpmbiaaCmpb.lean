/- Package bitvec's marking of lanes in a bitmap, and the bits that a comparison of words sets. -/
import Derived.Test.YtgobcaianpmbiaaCmp
set_option linter.unusedVariables false
set_option linter.unusedSimpArgs false
set_option linter.unnecessarySimpa false
namespace Go.Proofs.Ytgobcaianpmbiaa
open Go.RowKit

/-- the table of math/bits lies where its variable lies -/
def Tab (w : World) : Prop := ∀ j, j < 64 → w.cell? ⟨999, j, none⟩ = some (.int .u8 ((Lib.deBruijn64tab.getD j 0 : Nat) : Int))
theorem Tab.mono {w w' : World} {B : Nat} (h : Tab w) (hb : Below B w w') (hB : 999 < B) : Tab w' := fun j hj => by rw [← h j hj]; exact hb.cell (p := ⟨999, j, none⟩) hB
theorem Tab.lt {w : World} (h : Tab w) : 999 < w.heap.size := World.block_lt_of_cell? w _ (h 0 (by omega))

theorem neg_u64 (x : Nat) (h0 : x ≠ 0) (h : x < 18446744073709551616) : IntKind.u64.wrap (-(x : Int)) = ((18446744073709551616 - x : Nat) : Int) := by rw [IntKind.wrap_u64]; omega
theorem tz_key (x : Nat) (h0 : x ≠ 0) (h : x < 18446744073709551616) :
    IntKind.u64.wrap (bits BinOp.and IntKind.u64 (x : Int) (IntKind.u64.wrap (-(x : Int))) * 285870213051353865) / 288230376151711744 =
      ((2 ^ Lib.ctz 64 x * 285870213051353865 % 18446744073709551616 / 288230376151711744 : Nat) : Int) := by
  have hl := Lib.lowest_bit 64 x h0 h
  rw [neg_u64 x h0 h, u64_and_nat _ _ h (by omega)]
  rw [show x &&& 18446744073709551616 - x = 2 ^ Lib.ctz 64 x from hl.1, IntKind.wrap_u64]
  generalize Lib.ctz 64 x = t
  generalize 2 ^ t = y
  omega
/-- does a hit, laid from 'first' on, fall at place i? -/
def hitAt (wd first hits i : Nat) : Bool := (List.range 64).any fun p => hits.testBit p && decide (first + p / wd = i)
theorem hitAt_zero (wd first i : Nat) : hitAt wd first 0 i = false := by simp [hitAt]
theorem hitAt_clear (wd first h i : Nat) (h0 : h ≠ 0) (hlt : h < 18446744073709551616) :
    hitAt wd first h i = (hitAt wd first (h &&& (h - 1)) i || decide (i = first + Lib.ctz 64 h / wd)) := by
  have hc := clear_lowest h h0 hlt
  have hk : Lib.ctz 64 h < 64 := (Lib.lowest_bit 64 h h0 hlt).2
  rw [Bool.eq_iff_iff]
  simp only [hitAt, Bool.or_eq_true, List.any_eq_true, List.mem_range, Bool.and_eq_true, decide_eq_true_eq]
  constructor
  · rintro ⟨p, hp, h1, h2⟩
    by_cases hpt : p = Lib.ctz 64 h
    · right; rw [← h2, hpt]
    · left; exact ⟨p, hp, by rw [(hc p).1, h1]; simp [hpt], h2⟩
  · rintro (⟨p, hp, h1, h2⟩ | h2)
    · rw [(hc p).1] at h1
      simp only [Bool.and_eq_true] at h1
      exact ⟨p, hp, h1.1, h2⟩
    · exact ⟨Lib.ctz 64 h, hk, (hc 0).2.1, h2.symm⟩

end Go.Proofs.Ytgobcaianpmbiaa
