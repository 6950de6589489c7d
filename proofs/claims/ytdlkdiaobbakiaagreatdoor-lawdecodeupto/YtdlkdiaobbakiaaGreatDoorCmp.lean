/- Package bitvec's comparison of whole words, and its small bitmap functions. -/
import Derived.Test.YtdlkdiaobbakiaaGreatDoorBm
import Derived.Deep.RegionWith
set_option linter.unusedVariables false
set_option linter.unusedSimpArgs false
set_option linter.unnecessarySimpa false
set_option maxRecDepth 20000
namespace Go.Proofs.YtdlkdiaobbakiaaGreatDoor
open Go.RowKit

def isRel (op : Int) : Bool := decide (1 ≤ op ∧ op ≤ 6)
/-- is a in the relation op to b? -/
def standsB (op : Int) (a b : Nat) : Bool :=
  if op = 1 then decide (a = b) else if op = 2 then decide (a ≠ b) else if op = 3 then decide (a < b) else if op = 4 then decide (a ≤ b) else if op = 5 then decide (b < a) else decide (b ≤ a)

theorem isRelation_any (op : Int) (w : World) : Calls Tryz.prog 178 #[.int .i64 op] w fun e w' => e = .returned (.bool (isRel op)) ∧ w' = w := by
  go_enter Tryz.func178, Tryz.ntmps178
  go_wp2
  all_goals go_ret
  all_goals refine ⟨ret_bool ?_, rfl⟩
  all_goals unfold isRel
  all_goals simp only [decide_eq_decide, true_eq_decide_iff, false_eq_decide_iff]
  all_goals omega

theorem beq_cast (a b : Nat) : ((a : Int) == (b : Int)) = decide (a = b) := by
  by_cases h : a = b
  · simp [h]
  · have : ¬ (a : Int) = (b : Int) := by omega
    simp [h, this]
theorem bne_cast (a b : Nat) : ((a : Int) != (b : Int)) = decide (a ≠ b) := by
  simp only [bne, beq_cast]; by_cases h : a = b <;> simp [h]

set_option maxHeartbeats 400000 in
theorem standsIn_any (a : Nat) (op : Int) (b : Nat) (w : World) : Calls Tryz.prog 180 #[.int .u64 a, .int .i64 op, .int .u64 b] w fun e w' => e = .returned (.bool (standsB op a b)) ∧ w' = w := by
  go_enter Tryz.func180, Tryz.ntmps180
  go_wp2
  all_goals go_ret
  all_goals refine ⟨ret_bool ?_, rfl⟩
  all_goals simp only [beq_iff_eq, beq_eq_false_iff_ne, ne_eq, bne_iff_ne, bne_eq_false_iff_eq] at *
  all_goals simp [standsB, beq_cast, bne_cast, *]

theorem bitWords_any (n : Nat) (w : World) (hn : n ≤ 65536) : Calls Tryz.prog 111 #[.int .i64 n] w fun e w' => e = .returned (.int .i64 (L.nWords 1 n : Nat)) ∧ w' = w := by
  go_enter Tryz.func111, Tryz.ntmps111
  go_wp2
  all_goals go_ret
  exact ⟨ret_i64 (by rw [nWords1]; omega), rfl⟩

theorem sub_u64 (a b : Nat) (h : b ≤ a) (ha : a < 18446744073709551616) : IntKind.u64.wrap ((a : Int) - (b : Int)) = ((a - b : Nat) : Int) := by rw [IntKind.wrap_u64]; omega
theorem u64_andNot_nat' (a b : Nat) (ha : a < 18446744073709551616) (hb : b < 18446744073709551616) : bits .andNot .u64 (a : Int) (b : Int) = ((a &&& (L.M64 - b) : Nat) : Int) := u64_andNot_nat a b ha hb
theorem M64_lt (b : Nat) : L.M64 - b < 18446744073709551616 := by unfold L.M64; omega
theorem and_lt64 {a : Nat} (b : Nat) (ha : a < 18446744073709551616) : a &&& b < 18446744073709551616 := Nat.lt_of_le_of_lt Nat.and_le_left ha
theorem or_lt64 {a b : Nat} (ha : a < 18446744073709551616) (hb : b < 18446744073709551616) : a ||| b < 18446744073709551616 := Nat.or_lt_two_pow (n := 64) ha hb
theorem xor_lt64 {a b : Nat} (ha : a < 18446744073709551616) (hb : b < 18446744073709551616) : a ^^^ b < 18446744073709551616 := Nat.xor_lt_two_pow (n := 64) ha hb
theorem not_u64' (a : Nat) (ha : a < 18446744073709551616) : bits BinOp.xor IntKind.u64 IntKind.u64.max (a : Int) = ((L.M64 - a : Nat) : Int) := not_u64 (a : Int) a rfl ha

theorem lessN_lt (a b t : Nat) (ht : t < 18446744073709551616) : L.lessN a b t < 18446744073709551616 := Nat.lt_of_le_of_lt Nat.and_le_right ht

set_option maxHeartbeats 400000 in
theorem lessLanes_any (a b t : Nat) (w : World) (ha : a < 18446744073709551616) (hb : b < 18446744073709551616) (ht : t < 18446744073709551616) (hle : b &&& (L.M64 - t) ≤ a ||| t) :
    Calls Tryz.prog 195 #[.int .u64 a, .int .u64 b, .int .u64 t] w fun e w' => e = .returned (.int .u64 (L.lessN a b t : Nat)) ∧ w' = w := by
  go_enter Tryz.func195, Tryz.ntmps195
  go_wp2
  go_ret
  refine ⟨ret_u64 ?_, rfl⟩
  have h1 := or_lt64 ha ht
  have h2 := xor_lt64 ha hb
  rw [u64_or_nat a t ha ht, u64_andNot_nat' b t hb ht, sub_u64 _ _ hle h1, not_u64' a ha, u64_and_nat _ _ (M64_lt a) hb, u64_xor_nat a b ha hb, not_u64' _ h2,
    u64_andNot_nat' _ _ (M64_lt _) (by omega), u64_or_nat _ _ (and_lt64 _ (M64_lt _)) (and_lt64 _ (M64_lt _)), u64_and_nat _ _ (or_lt64 (and_lt64 _ (M64_lt _)) (and_lt64 _ (M64_lt _))) ht]
  rfl
theorem unequalLanes_any (a b t : Nat) (w : World) (ha : a < 18446744073709551616) (hb : b < 18446744073709551616) (ht : t < 18446744073709551616) (hle : b &&& (L.M64 - t) ≤ a ||| t) (hle2 : a &&& (L.M64 - t) ≤ b ||| t) :
    Calls Tryz.prog 194 #[.int .u64 a, .int .u64 b, .int .u64 t] w fun e w' => e = .returned (.int .u64 (L.lessN a b t ||| L.lessN b a t : Nat)) ∧ w' = w := by
  have HLE := hid hle; have HLE2 := hid hle2
  clear hle hle2
  go_enter Tryz.func194, Tryz.ntmps194
  go_wp2_with fail
  refine (lessLanes_any a b t _ ha hb ht HLE.out).mono ?_
  rintro e w' ⟨rfl, rfl⟩
  go_wp2_with fail
  refine (lessLanes_any b a t _ hb ha ht HLE2.out).mono ?_
  rintro e w' ⟨rfl, rfl⟩
  go_wp2
  go_ret
  exact ⟨ret_u64 (u64_or_nat _ _ (lessN_lt _ _ _ ht) (lessN_lt _ _ _ ht)), rfl⟩

/-- what compareWord answers -/
def cmpN (op : Int) (a b t : Nat) : Nat :=
  if op = 1 then t &&& (L.M64 - (L.lessN a b t ||| L.lessN b a t)) else if op = 2 then L.lessN a b t ||| L.lessN b a t else if op = 3 then L.lessN a b t
  else if op = 4 then t &&& (L.M64 - L.lessN b a t) else if op = 5 then L.lessN b a t else t &&& (L.M64 - L.lessN a b t)
set_option maxHeartbeats 1000000 in
theorem compareWord_any (a b t : Nat) (op : Int) (w : World) (ha : a < 18446744073709551616) (hb : b < 18446744073709551616) (ht : t < 18446744073709551616) (hle : b &&& (L.M64 - t) ≤ a ||| t) (hle2 : a &&& (L.M64 - t) ≤ b ||| t) :
    Calls Tryz.prog 182 #[.int .u64 a, .int .u64 b, .int .u64 t, .int .i64 op] w fun e w' => e = .returned (.int .u64 (cmpN op a b t : Nat)) ∧ w' = w := by
  have HLE := hid hle; have HLE2 := hid hle2
  have hx := lessN_lt a b t ht
  have hy := lessN_lt b a t ht
  clear hle hle2
  generalize hxx : L.lessN a b t = x at *
  generalize hyy : L.lessN b a t = y at *
  have H1 := hid (lessLanes_any a b t w ha hb ht HLE.out)
  have H2 := hid (lessLanes_any b a t w hb ha ht HLE2.out)
  have H3 := hid (unequalLanes_any a b t w ha hb ht HLE.out HLE2.out)
  rw [hxx] at H1
  rw [hyy] at H2
  rw [hxx, hyy] at H3
  have HC : Hid (cmpN op a b t = if op = 1 then t &&& (L.M64 - (x ||| y)) else if op = 2 then x ||| y else if op = 3 then x else if op = 4 then t &&& (L.M64 - y) else if op = 5 then y else t &&& (L.M64 - x)) := by
    refine hid ?_; rw [cmpN, hxx, hyy]
  clear hxx hyy HLE HLE2
  go_enter Tryz.func182, Tryz.ntmps182
  by_cases c1 : op = 1
  · subst c1
    go_wp2_with (first
      | (go_at_call 194; refine H3.out.mono ?_; rintro e w' ⟨rfl, rfl⟩))
    go_ret
    exact ⟨ret_u64 (by rw [HC.out]; exact u64_andNot_nat' _ _ ht (or_lt64 hx hy)), rfl⟩
  · by_cases c2 : op = 2
    · subst c2
      go_wp2_with (first
        | (go_at_call 194; refine H3.out.mono ?_; rintro e w' ⟨rfl, rfl⟩))
      go_ret
      exact ⟨ret_u64 (by rw [HC.out]; rfl), rfl⟩
    · by_cases c3 : op = 3
      · subst c3
        go_wp2_with (first
          | (go_at_call 195; refine H1.out.mono ?_; rintro e w' ⟨rfl, rfl⟩))
        go_ret
        exact ⟨ret_u64 (by rw [HC.out]; rfl), rfl⟩
      · by_cases c4 : op = 4
        · subst c4
          go_wp2_with (first
            | (go_at_call 195; refine H2.out.mono ?_; rintro e w' ⟨rfl, rfl⟩))
          go_ret
          exact ⟨ret_u64 (by rw [HC.out]; exact u64_andNot_nat' _ _ ht hy), rfl⟩
        · by_cases c5 : op = 5
          · subst c5
            go_wp2_with (first
              | (go_at_call 195; refine H2.out.mono ?_; rintro e w' ⟨rfl, rfl⟩))
            go_ret
            exact ⟨ret_u64 (by rw [HC.out]; rfl), rfl⟩
          · have d1 : (op == 1) = false := by simpa using c1
            have d2 : (op == 2) = false := by simpa using c2
            have d3 : (op == 3) = false := by simpa using c3
            have d4 : (op == 4) = false := by simpa using c4
            have d5 : (op == 5) = false := by simpa using c5
            have HE : Hid (cmpN op a b t = t &&& (L.M64 - x)) := by refine hid ?_; rw [HC.out]; simp [c1, c2, c3, c4, c5]
            clear c1 c2 c3 c4 c5
            go_wp2_with (first
              | (go_at_call 195; refine H1.out.mono ?_; rintro e w' ⟨rfl, rfl⟩))
            go_ret
            exact ⟨ret_u64 (by rw [HE.out]; exact u64_andNot_nat' _ _ ht hx), rfl⟩
end Go.Proofs.YtdlkdiaobbakiaaGreatDoor
