/- The laws' own helpers over words: clip, layWords, sameWords, spoilWords, copyWords. -/
import Derived.Test.YtdlkdiaobbakiaaGreatDoorProg
import Derived.Test.YtdlkdiaobbakiaaGreatDoorMem
set_option linter.unusedVariables false
set_option linter.unusedSimpArgs false
set_option linter.unnecessarySimpa false
set_option maxRecDepth 20000
namespace Go.Proofs.YtdlkdiaobbakiaaGreatDoor
open Go.RowKit

def clipN (r : Int) : Nat := (min (max r 0) 1024).toNat
theorem clipN_le (r : Int) : clipN r ≤ 1024 := by unfold clipN; omega

theorem clip_any (r : Int) (w : World) :
    Calls Tryz.prog 17 #[.int .i64 r] w fun e w' => e = .returned (.int .i64 (clipN r : Nat)) ∧ w' = w := by
  go_enter Tryz.func17, Tryz.ntmps17
  go_wp2
  all_goals go_ret
  all_goals refine ⟨?_, rfl⟩
  all_goals simp [clipN]
  all_goals omega

theorem Tryz.info45 : (Tryz.prog.info? 68).map (fun i => (i.zero, i.size, i.bytes)) = some (some (.int .u64 0), 1, 8) := by kernel_rfl

/-- What lies behind the words that a law hands over. -/
def tailW (m : Nat) : List Nat := (List.range m).map fun j => 18446744073709551615 - (131 + j)

theorem tailW_succ (j : Nat) : tailW (j + 1) = tailW j ++ [18446744073709551615 - (131 + j)] := by simp [tailW, List.range_succ]

theorem eq_step (xs ys : List Nat) (k : Nat) (h : xs.length = ys.length) (hp : xs.take k = ys.take k) (hk : k < xs.length) (he : xs.getD k 0 = ys.getD k 0) : xs.take (k + 1) = ys.take (k + 1) := by
  rw [List.take_succ_eq_append_getElem hk, List.take_succ_eq_append_getElem (h ▸ hk), hp]
  simp only [List.getD, List.getElem?_eq_getElem hk, List.getElem?_eq_getElem (h ▸ hk), Option.getD_some] at he
  rw [he]

end Go.Proofs.YtdlkdiaobbakiaaGreatDoor
