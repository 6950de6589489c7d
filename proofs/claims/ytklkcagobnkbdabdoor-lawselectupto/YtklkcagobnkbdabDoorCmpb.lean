/- Package bitvec's marking of lanes in a bitmap, and the bits that a comparison of words sets. -/
import Derived.Test.YtklkcagobnkbdabDoorCmp
set_option linter.unusedVariables false
set_option linter.unusedSimpArgs false
set_option linter.unnecessarySimpa false
namespace Go.Proofs.YtklkcagobnkbdabDoor
open Go.RowKit

/-- the table of math/bits lies where its variable lies -/
def Tab (w : World) : Prop := ∀ j, j < 64 → w.cell? ⟨0, j, none⟩ = some (.int .u8 ((Lib.deBruijn64tab.getD j 0 : Nat) : Int))
theorem Tab.mono {w w' : World} {B : Nat} (h : Tab w) (hb : Below B w w') (hB : 0 < B) : Tab w' := fun j hj => by rw [← h j hj]; exact hb.cell (p := ⟨0, j, none⟩) hB
theorem Tab.lt {w : World} (h : Tab w) : 0 < w.heap.size := World.block_lt_of_cell? w _ (h 0 (by omega))

theorem neg_u64 (x : Nat) (h0 : x ≠ 0) (h : x < 18446744073709551616) : IntKind.u64.wrap (-(x : Int)) = ((18446744073709551616 - x : Nat) : Int) := by rw [IntKind.wrap_u64]; omega
theorem tz_key (x : Nat) (h0 : x ≠ 0) (h : x < 18446744073709551616) :
    IntKind.u64.wrap (bits BinOp.and IntKind.u64 (x : Int) (IntKind.u64.wrap (-(x : Int))) * 285870213051353865) / 288230376151711744 =
      ((2 ^ Lib.ctz 64 x * 285870213051353865 % 18446744073709551616 / 288230376151711744 : Nat) : Int) := by
  have hl := Lib.lowest_bit 64 x h0 h
  rw [neg_u64 x h0 h, u64_and_nat _ _ h (by omega)]
  rw [show x &&& 18446744073709551616 - x = 2 ^ Lib.ctz 64 x from hl.1, IntKind.wrap_u64]
  generalize Lib.ctz 64 x = t
  generalize 2 ^ t = y
  omega
set_option maxHeartbeats 1000000 in
theorem tz_core (x k idx : Nat) (w : World) (hx0 : ((x : Int) == 0) = false)
    (key : IntKind.u64.wrap (bits BinOp.and IntKind.u64 (x : Int) (IntKind.u64.wrap (-(x : Int))) * 285870213051353865) / 288230376151711744 = (idx : Int))
    (hi : idx < 64) (hcell : w.cell? ⟨0, idx, none⟩ = some (.int .u8 (k : Int))) (hk : k < 64) :
    Calls Tryd.prog 32 #[.int .u64 x] w fun e w' => e = .returned (.int .i64 (k : Int)) ∧ w' = w := by
  go_enter Tryd.func32, Tryd.ntmps32
  go_wp2_with (simp only [key])
  go_ret
  exact ⟨rfl, rfl⟩
theorem trailingZeros_any (x : Nat) (w : World) (h0 : x ≠ 0) (h : x < 18446744073709551616) (ht : Tab w) :
    Calls Tryd.prog 32 #[.int .u64 x] w fun e w' => e = .returned (.int .i64 (Lib.ctz 64 x : Nat)) ∧ w' = w := by
  have hk : Lib.ctz 64 x < 64 := (Lib.lowest_bit 64 x h0 h).2
  have hdb := Lib.deBruijn64_at _ hk
  refine tz_core x (Lib.ctz 64 x) _ w (by simpa using h0) (tz_key x h0 h) hdb.1 ?_ hk
  rw [ht _ hdb.1, hdb.2]

set_option maxHeartbeats 400000 in
/-- one bit more in a bitmap -/
theorem setBit_any (g n cap i : Nat) (ys : List Nat) (w : World) (hr : Row w g 37 (u64s ys)) (hn : ys.length = n) (hnc : n ≤ cap) (hi : i < 64 * n) (hy : ∀ x ∈ ys, x < 18446744073709551616) (hi2 : i ≤ 9223372036854775807) :
    Calls Tryd.prog 27 #[.slice (some ⟨g, 0, none⟩) n cap, .int .i64 i] w fun e w' => e = .returned (.tuple #[]) ∧
      Row w' g 37 (u64s (ys.set (i / 64) (ys.getD (i / 64) 0 ||| 2 ^ (i % 64)))) ∧ Below g w w' ∧ w'.heap.size = w.heap.size ∧ ∀ k, k ≠ g → w'.heap[k]? = w.heap[k]? := by
  subst hn
  obtain ⟨d, hd⟩ : ∃ d, i / 64 = d := ⟨_, rfl⟩
  obtain ⟨r, hr'⟩ : ∃ r, i % 64 = r := ⟨_, rfl⟩
  have hd' : (i : Int) / 64 = (d : Int) := by omega
  have hrr : (i : Int) % 64 = (r : Int) := by omega
  have hr64 : r < 64 := by omega
  have hdl : d < ys.length := by omega
  have hcell : w.cell? ⟨g, d, none⟩ = some (.int .u64 ((ys.getD d 0 : Nat) : Int)) := by rw [hr.cell]; exact u64s_get ys d hdl
  have hfr := hr.frozen d
  have hyd : ys.getD d 0 < 18446744073709551616 := L.getD_lt (w := 64) (fun a ha => by have := hy a ha; omega) d
  have HOR := hid (or_u64_bit (ys.getD d 0) r hyd hr64)
  have HS := hid (hr.set d (.int .u64 ((ys.getD d 0 ||| 2 ^ r : Nat) : Int)))
  rw [hd, hr']
  clear hd hr' hr
  generalize hq : ys.getD d 0 = q at *
  clear hq
  go_enter Tryd.func27, Tryd.ntmps27
  go_wp2
  go_end0
  rw [HOR.out]
  refine ⟨rfl, ?_, below_set (Below.refl _ _) _ _ _ (Nat.le_refl _), by simp [World.setCell], fun k hk => heap_setCell_other _ _ k _ hk⟩
  rw [← u64s_set]
  exact HS.out

/-- does a hit, laid from 'first' on, fall at place i? -/
def hitAt (wd first hits i : Nat) : Bool := (List.range 64).any fun p => hits.testBit p && decide (first + p / wd = i)
theorem hitAt_zero (wd first i : Nat) : hitAt wd first 0 i = false := by simp [hitAt]
theorem hitAt_clear (wd first h i : Nat) (h0 : h ≠ 0) (hlt : h < 18446744073709551616) :
    hitAt wd first h i = (hitAt wd first (h &&& (h - 1)) i || decide (i = first + Lib.ctz 64 h / wd)) := by
  have hc := clear_lowest h h0 hlt
  have hk : Lib.ctz 64 h < 64 := (Lib.lowest_bit 64 h h0 hlt).2
  rw [Bool.eq_iff_iff]
  simp only [hitAt, Bool.or_eq_true, List.any_eq_true, List.mem_range, Bool.and_eq_true, decide_eq_true_eq]
  constructor
  · rintro ⟨p, hp, h1, h2⟩
    by_cases hpt : p = Lib.ctz 64 h
    · right; rw [← h2, hpt]
    · left; exact ⟨p, hp, by rw [(hc p).1, h1]; simp [hpt], h2⟩
  · rintro (⟨p, hp, h1, h2⟩ | h2)
    · rw [(hc p).1] at h1
      simp only [Bool.and_eq_true] at h1
      exact ⟨p, hp, h1.1, h2⟩
    · exact ⟨Lib.ctz 64 h, hk, (hc 0).2.1, h2.symm⟩

end Go.Proofs.YtklkcagobnkbdabDoor
