/- The plain answer's need, order, lanesAt. -/
import Derived.Test.YtdlkdiaobbakiaaGreatDoorRefm
import Derived.Test.YtdlkdiaobbakiaaGreatDoorRefc
import Derived.Test.YtdlkdiaobbakiaaGreatDoorKinds
import Derived.OwnWalk
import Derived.Laws.Cover1
set_option linter.unusedVariables false
set_option linter.unusedSimpArgs false
set_option linter.unnecessarySimpa false
set_option maxRecDepth 100000
namespace Go.Proofs.YtdlkdiaobbakiaaGreatDoor
open Go.RowKit

theorem needN_eq (d w : Nat) (h1 : d ≤ 2 ^ w) (h2 : ∀ t, t < w → 2 ^ t < d) : needN d = w := by
  unfold needN
  cases w with
  | zero => rw [if_pos (by simp at h1; omega)]
  | succ t =>
    have h3 := h2 t (by omega)
    have h4 : 1 ≤ 2 ^ t := Nat.one_le_two_pow
    rw [if_neg (by omega)]
    have h5 : (d - 1).log2 = t := (Nat.log2_eq_iff (by omega)).2 ⟨by omega, by omega⟩
    omega
set_option maxHeartbeats 1000000 in
theorem need_any (d : Nat) (w : World) (hd : d ≤ 256) : Calls Tryz.prog 63 #[.int .i64 d] w fun e w' => e = .returned (.int .i64 (needN d : Nat)) ∧ w' = w := by
  go_enter Tryz.func63, Tryz.ntmps63
  go_wp2
  go_loop [3] (fun i => ∃ k : Nat, k ≤ 8 ∧ i = .int .i64 k ∧ ∀ t, t < k → 2 ^ t < d) (fun i => 9 - (intOf i).toNat)
  case atStart => exact ⟨0, by omega, rfl, fun t h => absurd h (Nat.not_lt_zero t)⟩
  case round =>
    obtain ⟨k, hk, rfl, hall⟩ := hrel
    have HALL := hid hall
    clear hall
    obtain ⟨pw, hpw⟩ : ∃ pw, 2 ^ k = pw := ⟨_, rfl⟩
    have hpl : pw ≤ 256 := by rw [← hpw]; exact Nat.le_trans (Nat.pow_le_pow_right (by omega) hk) (by decide)
    have hk8 : pw < d → k < 8 := by
      intro h
      by_cases h8 : k = 8
      · subst h8; rw [show (2 : Nat) ^ 8 = 256 from rfl] at hpw; omega
      · omega
    have hpi : (2 : Int) ^ k = (pw : Int) := by rw [← hpw]; simp
    have HPW := hid hpw
    clear hpw
    by_cases hlt : pw < d
    · have hk7 := hk8 hlt
      have hli : (pw : Int) < (d : Int) := by omega
      clear hk8
      go_wp2
      go_round
      case rel =>
        refine ⟨k + 1, by omega, by go_num, fun t ht => ?_⟩
        by_cases htk : t = k
        · subst htk; rw [HPW.out]; exact hlt
        · exact HALL.out t (by omega)
      case measure => simp [intOf]; omega
    · have hli : ¬ (pw : Int) < (d : Int) := by omega
      clear hk8
      go_wp2
      go_ret
      exact ⟨ret_i64 (by rw [needN_eq d k (by rw [HPW.out]; omega) HALL.out]), rfl⟩

def ltI (a b : Int) : Bool := decide (a < b)
/-- how two values stand -/
def ordI (a b : Int) : Int := if a < b then -1 else if b < a then 1 else 0
def ordS (a b : ByteArray) : Int := if ltS a b = true then -1 else if (!(ltS a b || eqS a b)) = true then 1 else 0
set_option maxHeartbeats 1000000 in
theorem orderI_any (a b : Int) (w : World) : Calls Tryz.prog 77 #[.agg #[.bool false, .int .i64 a, .string ByteArray.empty], .agg #[.bool false, .int .i64 b, .string ByteArray.empty]] w fun e w' => e = .returned (.int .i64 (ordI a b)) ∧ Below w.heap.size w w' := by
  go_enter Tryz.func77, Tryz.ntmps77
  unfold ordI
  by_cases h1 : a < b
  · go_wp2
    go_ret
    exact ⟨by simp [h1], (((brefl w).alloc (Nat.le_refl _) _).alloc (by simp) _)⟩
  · by_cases h2 : b < a
    · have h2' : a > b := h2
      go_wp2
      go_ret
      exact ⟨by simp [h1, h2], (((brefl w).alloc (Nat.le_refl _) _).alloc (by simp) _)⟩
    · have h2' : ¬ a > b := h2
      go_wp2
      go_ret
      exact ⟨by simp [h1, h2], (((brefl w).alloc (Nat.le_refl _) _).alloc (by simp) _)⟩
set_option maxHeartbeats 1000000 in
theorem orderS_any (a b : ByteArray) (w : World) : Calls Tryz.prog 77 #[.agg #[.bool false, .int .i64 0, .string a], .agg #[.bool false, .int .i64 0, .string b]] w fun e w' => e = .returned (.int .i64 (ordS a b)) ∧ Below w.heap.size w w' := by
  obtain ⟨lt, hlt⟩ : ∃ lt, Op.bytesLess a.toList b.toList = lt := ⟨_, rfl⟩
  obtain ⟨eq, heq⟩ : ∃ eq, (a.toList == b.toList) = eq := ⟨_, rfl⟩
  have hord : ordS a b = if lt = true then -1 else if (!(lt || eq)) = true then 1 else 0 := by unfold ordS ltS eqS; rw [hlt, heq]
  rw [hord]
  clear hord
  have h1 : ¬ (0 : Int) < 0 := by omega
  go_enter Tryz.func77, Tryz.ntmps77
  cases lt
  · cases eq
    · go_wp2
      go_ret
      exact ⟨rfl, (((brefl w).alloc (Nat.le_refl _) _).alloc (by simp) _)⟩
    · go_wp2
      go_ret
      exact ⟨rfl, (((brefl w).alloc (Nat.le_refl _) _).alloc (by simp) _)⟩
  · go_wp2
    go_ret
    exact ⟨rfl, (((brefl w).alloc (Nat.le_refl _) _).alloc (by simp) _)⟩
end Go.Proofs.YtdlkdiaobbakiaaGreatDoor
