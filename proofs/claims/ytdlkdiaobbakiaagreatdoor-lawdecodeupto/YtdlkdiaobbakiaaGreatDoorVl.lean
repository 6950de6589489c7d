/- Package chunk: values, both kinds, every codec. -/
import Derived.Test.YtdlkdiaobbakiaaGreatDoorVal45
import Derived.Test.YtdlkdiaobbakiaaGreatDoorListS
import Derived.Test.YtdlkdiaobbakiaaGreatDoorHead
set_option linter.unusedVariables false
set_option linter.unusedSimpArgs false
set_option linter.unnecessarySimpa false
set_option maxRecDepth 100000
namespace Go.Proofs.YtdlkdiaobbakiaaGreatDoor
open Go.RowKit

def vl_I (cd wd : Nat) (list : List Int) (ends : List Nat) (base : Int) (lanes : List Nat) (j : Nat) : Int :=
  if cd = 4 ∨ cd = 5 then val45 base (L.laneOf wd lanes j) else val_I cd wd list ends lanes j
def okv_I (cd wd : Nat) (list : List Int) (ends : List Nat) (lanes : List Nat) (j : Nat) : Prop :=
  ((cd = 4 ∨ cd = 5) ∧ wd ≤ 64 ∧ (0 < wd → j / (64 / wd) < lanes.length)) ∨ ok_I cd wd list ends lanes j
theorem ValueAll_I (w : World) (g : Nat) (rows : Int) (codec wd : Nat) (nulls : List Nat) (count : Int) (list : List Int) (ends : List Nat) (base : Int) (lanes : List Nat) (j : Nat)
    (h : Ck_I w g rows codec wd nulls count list ends base lanes) (hel : ends.length ≤ 1048576) (hll : list.length ≤ 1048576) (hnv : ∀ x ∈ lanes, x < 18446744073709551616) (hj : j ≤ 65536) (hok : okv_I codec wd list ends lanes j) :
    Calls Tryz.prog 108 #[.pointer (some ⟨g, 0, none⟩), .int .i64 j] w fun e w' => e = .returned (vI (vl_I codec wd list ends base lanes j)) ∧ Below w.heap.size w w' := by
  unfold vl_I
  rcases hok with ⟨h1, h2, h3⟩ | h1
  · rw [if_pos h1]
    exact Value45_any w g rows codec wd nulls count list ends base lanes j h hnv hj h1 h2 h3
  · have hn : ¬ (codec = 4 ∨ codec = 5) := by rcases h1 with h1 | h1 | h1 <;> omega
    rw [if_neg hn]
    exact Value123_I w g rows codec wd nulls count list ends base lanes j h hel hll hnv hj h1
def vl_S (cd wd : Nat) (list : List ByteArray) (ends : List Nat) (base : Int) (lanes : List Nat) (j : Nat) : ByteArray := val_S cd wd list ends lanes j
def okv_S (cd wd : Nat) (list : List ByteArray) (ends : List Nat) (lanes : List Nat) (j : Nat) : Prop := ok_S cd wd list ends lanes j
theorem ValueAll_S (w : World) (g : Nat) (rows : Int) (codec wd : Nat) (nulls : List Nat) (count : Int) (list : List ByteArray) (ends : List Nat) (base : Int) (lanes : List Nat) (j : Nat)
    (h : Ck_S w g rows codec wd nulls count list ends base lanes) (hel : ends.length ≤ 1048576) (hll : list.length ≤ 1048576) (hnv : ∀ x ∈ lanes, x < 18446744073709551616) (hj : j ≤ 65536) (hok : okv_S codec wd list ends lanes j) :
    Calls Tryz.prog 102 #[.pointer (some ⟨g, 0, none⟩), .int .i64 j] w fun e w' => e = .returned (vS (vl_S codec wd list ends base lanes j)) ∧ Below w.heap.size w w' :=
  Value123_S w g rows codec wd nulls count list ends base lanes j h hel hll hnv hj hok
/-- the fields of the cell of a value -/
def cB_I (x : Int) : Int := x
def cC_I (x : Int) : ByteArray := ByteArray.empty
def cB_S (x : ByteArray) : Int := 0
def cC_S (x : ByteArray) : ByteArray := x
theorem rank_lt {rows : Nat} (nulls : List Nat) (r : Nat) (hr : r < rows) (hb : bitOf nulls r = false) : r - rankN nulls (r + 1) < rows - rankN nulls rows := by
  have h1 : rankN nulls (r + 1) ≤ r := by
    rw [rankN_succ, hb]; unfold rankN; have := List.length_filter_le (bitOf nulls) (List.range r); rw [List.length_range] at this; simpa using this
  have h2 : ∀ d, rankN nulls (r + 1 + d) ≤ rankN nulls (r + 1) + d := by
    intro d
    induction d with
    | zero => simp
    | succ d ih => rw [← Nat.add_assoc, rankN_succ]; split <;> omega
  have h3 := h2 (rows - (r + 1))
  rw [show r + 1 + (rows - (r + 1)) = rows by omega] at h3
  omega

end Go.Proofs.YtdlkdiaobbakiaaGreatDoor
