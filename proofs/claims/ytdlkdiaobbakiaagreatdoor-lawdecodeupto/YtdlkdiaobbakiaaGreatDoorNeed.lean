/- Package chunk: the least width for so many entries. -/
import Derived.Test.YtdlkdiaobbakiaaGreatDoorChkb
import Derived.Lib.Strings
import Derived.Lib.Slices
import Derived.Lib.Small
import Derived.Lib.Walk
import Derived.Lib.BitFns
set_option linter.unusedVariables false
set_option linter.unusedSimpArgs false
set_option linter.unnecessarySimpa false
namespace Go.Proofs.YtdlkdiaobbakiaaGreatDoor
open Go.RowKit

def needN (d : Nat) : Nat := if d < 2 then 0 else Nat.log2 (d - 1) + 1
theorem need_tab : ∀ i : Fin 256, Lib.bitLen i.val = if i.val = 0 then 0 else Nat.log2 i.val + 1 := by decide +kernel

set_option maxHeartbeats 4000000 in
set_option maxRecDepth 100000 in
theorem Len64_int (x : Int) (w : World) (h0 : 0 ≤ x) (h1 : x ≤ 255) :
    Calls Tryz.prog 167 #[.int .u64 x] w fun e w' => e = .returned (.int .i64 (Lib.bitLen x.toNat)) ∧ w' = w := by
  go_enter Tryz.func167, Tryz.ntmps167
  have e1 : ¬ (4294967296 ≤ x) := by omega
  have e2 : ¬ (65536 ≤ x) := by omega
  have e3 : ¬ (256 ≤ x) := by omega
  go_wp2
  go_ret
  refine ⟨congrArg Ending.returned (congrArg (Value.int IntKind.i64) ?_), rfl⟩
  have l := Lib.bitLen_le8' x h0 (by omega)
  have e4 : Lib.len8 x = (Lib.bitLen x.toNat : Int) := Lib.len8_of x h0 h1
  rw [e4]
  generalize Lib.bitLen x.toNat = t at *
  unfold wrap64
  omega
theorem Len64_any (x : Nat) (w : World) (hx : x < 256) (h1 : 1 ≤ x) :
    Calls Tryz.prog 167 #[.int .u64 x] w fun e w' => e = .returned (.int .i64 (Nat.log2 x + 1 : Nat)) ∧ w' = w := by
  have h := need_tab ⟨x, hx⟩
  simp only at h
  rw [if_neg (by omega)] at h
  have := Len64_int x w (by omega) (by omega)
  rw [Int.toNat_natCast, h] at this
  exact this
set_option maxRecDepth 100000 in
theorem Len_any (x : Nat) (w : World) (hx : x < 256) (h1 : 1 ≤ x) :
    Calls Tryz.prog 145 #[.int .u64 x] w fun e w' => e = .returned (.int .i64 (Nat.log2 x + 1 : Nat)) ∧ w' = w := by
  go_enter Tryz.func145, Tryz.ntmps145
  go_wp2_with (go_at_call 167; refine (Len64_any x _ hx h1).mono ?_; rintro e w' ⟨rfl, rfl⟩)
  go_ret
  exact ⟨rfl, rfl⟩
set_option maxRecDepth 100000 in
theorem Need_any (d : Nat) (w : World) (hd : d ≤ 256) :
    Calls Tryz.prog 117 #[.int .i64 d] w fun e w' => e = .returned (.int .i64 (needN d : Nat)) ∧ w' = w := by
  go_enter Tryz.func117, Tryz.ntmps117
  by_cases h : d < 2
  · go_wp2
    go_ret
    exact ⟨by simp [needN, h], rfl⟩
  · have e1 : (d : Int) - 1 = ((d - 1 : Nat) : Int) := by omega
    have HC := hid (fun w2 : World => Len_any (d - 1) w2 (by omega) (by omega))
    go_wp2_with (go_at_call 145; refine (HC.out _).mono ?_; rintro e w' ⟨rfl, rfl⟩)
    go_ret
    exact ⟨by simp [needN, h], rfl⟩
end Go.Proofs.YtdlkdiaobbakiaaGreatDoor
