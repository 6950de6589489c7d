/- Package chunk: what readLanes asks. -/
import Derived.Test.YtdlkdiaobbakiaaGreatDoorRdls
import Derived.Test.YtdlkdiaobbakiaaGreatDoorCmpc
set_option linter.unusedVariables false
namespace Go.Proofs.YtdlkdiaobbakiaaGreatDoor
open Go.RowKit
/-- do the lanes pack, and stands none of them in the relation op to lim? -/
def lanesB (wd k op : Int) (ws : List Nat) (lim : Nat) : Bool := cmpOk wd k op ws && (rankR k k (cmpR wd k op ws lim) == 0)
def nilS : Value := .slice none 0 0
theorem rd_left_I (c : Nat) (xs : List Nat) (s : Bool) : (rdI c xs s).2.2.1.length ≤ xs.length ∧ ∀ B, (∀ x ∈ xs, x < B) → ∀ x ∈ (rdI c xs s).2.2.1, x < B := by
  unfold rdI
  exact ⟨tkL_le _ _, fun B h => tkL_lt h⟩
theorem rd_len_I (c : Nat) (xs : List Nat) (s : Bool) (hl : xs.length ≤ 1048576) : (rdI c xs s).1.length ≤ 1048576 := by
  unfold rdI
  simp only [List.length_map, numL_length]
  unfold tk; split
  · rw [List.length_take]; omega
  · simp

def lstI (xs : List Int) : List Value := i64s xs
def lstS (xs : List ByteArray) : List Value := strs xs
def vI (x : Int) : Value := .int .i64 x
def vS (x : ByteArray) : Value := .string x
def dfI : Int := 0
def dfS : ByteArray := default
theorem lstI_get (xs : List Int) (i : Nat) (h : i < xs.length) : (lstI xs)[i]? = some (vI (xs.getD i dfI)) := i64s_get xs i h
theorem lstS_get (xs : List ByteArray) (i : Nat) (h : i < xs.length) : (lstS xs)[i]? = some (vS (xs.getD i dfS)) := strs_get xs i h
theorem rd_left_S (c : Nat) (xs : List Nat) (s : Bool) : (rdS c xs s).2.2.1.length ≤ xs.length ∧ ∀ B, (∀ x ∈ xs, x < B) → ∀ x ∈ (rdS c xs s).2.2.1, x < B := by
  unfold rdS
  simp only
  split
  · exact ⟨tkL_le _ _, fun B h => tkL_lt h⟩
  · split
    · exact ⟨Nat.le_trans (tkL_le _ _) (tkL_le _ _), fun B h => tkL_lt (tkL_lt h)⟩
    · exact ⟨Nat.le_trans (tkL_le _ _) (tkL_le _ _), fun B h => tkL_lt (tkL_lt h)⟩
theorem rd_len_S (c : Nat) (xs : List Nat) (s : Bool) (hl : xs.length ≤ 1048576) : (rdS c xs s).1.length ≤ 1048576 := by
  have h1 : (nI (numL 4 (tk (4 * c) xs))).length ≤ 1048576 := by
    rw [nI_length, numL_length]; unfold tk; split
    · rw [List.length_take]; omega
    · simp
  unfold rdS
  simp only
  split
  · simp
  · split
    · simp
    · rw [cutS_length]; exact h1
end Go.Proofs.YtdlkdiaobbakiaaGreatDoor
