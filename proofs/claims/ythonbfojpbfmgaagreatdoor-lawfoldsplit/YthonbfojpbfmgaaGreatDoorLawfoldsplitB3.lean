/- Package bitvec's comparison of whole words, and its small bitmap functions. -/
import Derived.Test.YthonbfojpbfmgaaGreatDoorLawfoldsplitB2
import Derived.Deep.RegionWith
set_option linter.unusedVariables false
set_option linter.unusedSimpArgs false
set_option linter.unnecessarySimpa false
set_option maxRecDepth 20000
namespace Go.Proofs.YthonbfojpbfmgaaGreatDoor
open Go.RowKit

def isRel (op : Int) : Bool := decide (1 ≤ op ∧ op ≤ 6)
/-- is a in the relation op to b? -/
def standsB (op : Int) (a b : Nat) : Bool :=
  if op = 1 then decide (a = b) else if op = 2 then decide (a ≠ b) else if op = 3 then decide (a < b) else if op = 4 then decide (a ≤ b) else if op = 5 then decide (b < a) else decide (b ≤ a)

theorem isRelation_any (op : Int) (w : World) : Calls Tryz.prog 87 #[.int .i64 op] w fun e w' => e = .returned (.bool (isRel op)) ∧ w' = w := by
  go_enter Tryz.func87, Tryz.ntmps87
  go_wp2
  all_goals go_ret
  all_goals refine ⟨ret_bool ?_, rfl⟩
  all_goals unfold isRel
  all_goals simp only [decide_eq_decide, true_eq_decide_iff, false_eq_decide_iff]
  all_goals omega

theorem beq_cast (a b : Nat) : ((a : Int) == (b : Int)) = decide (a = b) := by
  by_cases h : a = b
  · simp [h]
  · have : ¬ (a : Int) = (b : Int) := by omega
    simp [h, this]
theorem bne_cast (a b : Nat) : ((a : Int) != (b : Int)) = decide (a ≠ b) := by
  simp only [bne, beq_cast]; by_cases h : a = b <;> simp [h]

set_option maxHeartbeats 400000 in
theorem standsIn_any (a : Nat) (op : Int) (b : Nat) (w : World) : Calls Tryz.prog 90 #[.int .u64 a, .int .i64 op, .int .u64 b] w fun e w' => e = .returned (.bool (standsB op a b)) ∧ w' = w := by
  go_enter Tryz.func90, Tryz.ntmps90
  go_wp2
  all_goals go_ret
  all_goals refine ⟨ret_bool ?_, rfl⟩
  all_goals simp only [beq_iff_eq, beq_eq_false_iff_ne, ne_eq, bne_iff_ne, bne_eq_false_iff_eq] at *
  all_goals simp [standsB, beq_cast, bne_cast, *]

theorem bitWords_any (n : Nat) (w : World) (hn : n ≤ 65536) : Calls Tryz.prog 91 #[.int .i64 n] w fun e w' => e = .returned (.int .i64 (L.nWords 1 n : Nat)) ∧ w' = w := by
  go_enter Tryz.func91, Tryz.ntmps91
  go_wp2
  all_goals go_ret
  exact ⟨ret_i64 (by rw [nWords1]; omega), rfl⟩

theorem sub_u64 (a b : Nat) (h : b ≤ a) (ha : a < 18446744073709551616) : IntKind.u64.wrap ((a : Int) - (b : Int)) = ((a - b : Nat) : Int) := by rw [IntKind.wrap_u64]; omega
theorem u64_andNot_nat' (a b : Nat) (ha : a < 18446744073709551616) (hb : b < 18446744073709551616) : bits .andNot .u64 (a : Int) (b : Int) = ((a &&& (L.M64 - b) : Nat) : Int) := u64_andNot_nat a b ha hb
theorem M64_lt (b : Nat) : L.M64 - b < 18446744073709551616 := by unfold L.M64; omega
theorem and_lt64 {a : Nat} (b : Nat) (ha : a < 18446744073709551616) : a &&& b < 18446744073709551616 := Nat.lt_of_le_of_lt Nat.and_le_left ha
theorem or_lt64 {a b : Nat} (ha : a < 18446744073709551616) (hb : b < 18446744073709551616) : a ||| b < 18446744073709551616 := Nat.or_lt_two_pow (n := 64) ha hb
theorem xor_lt64 {a b : Nat} (ha : a < 18446744073709551616) (hb : b < 18446744073709551616) : a ^^^ b < 18446744073709551616 := Nat.xor_lt_two_pow (n := 64) ha hb
theorem not_u64' (a : Nat) (ha : a < 18446744073709551616) : bits BinOp.xor IntKind.u64 IntKind.u64.max (a : Int) = ((L.M64 - a : Nat) : Int) := not_u64 (a : Int) a rfl ha

theorem lessN_lt (a b t : Nat) (ht : t < 18446744073709551616) : L.lessN a b t < 18446744073709551616 := Nat.lt_of_le_of_lt Nat.and_le_right ht

set_option maxHeartbeats 400000 in
theorem lessLanes_any (a b t : Nat) (w : World) (ha : a < 18446744073709551616) (hb : b < 18446744073709551616) (ht : t < 18446744073709551616) (hle : b &&& (L.M64 - t) ≤ a ||| t) :
    Calls Tryz.prog 147 #[.int .u64 a, .int .u64 b, .int .u64 t] w fun e w' => e = .returned (.int .u64 (L.lessN a b t : Nat)) ∧ w' = w := by
  go_enter Tryz.func147, Tryz.ntmps147
  go_wp2
  go_ret
  refine ⟨ret_u64 ?_, rfl⟩
  have h1 := or_lt64 ha ht
  have h2 := xor_lt64 ha hb
  rw [u64_or_nat a t ha ht, u64_andNot_nat' b t hb ht, sub_u64 _ _ hle h1, not_u64' a ha, u64_and_nat _ _ (M64_lt a) hb, u64_xor_nat a b ha hb, not_u64' _ h2,
    u64_andNot_nat' _ _ (M64_lt _) (by omega), u64_or_nat _ _ (and_lt64 _ (M64_lt _)) (and_lt64 _ (M64_lt _)), u64_and_nat _ _ (or_lt64 (and_lt64 _ (M64_lt _)) (and_lt64 _ (M64_lt _))) ht]
  rfl
theorem unequalLanes_any (a b t : Nat) (w : World) (ha : a < 18446744073709551616) (hb : b < 18446744073709551616) (ht : t < 18446744073709551616) (hle : b &&& (L.M64 - t) ≤ a ||| t) (hle2 : a &&& (L.M64 - t) ≤ b ||| t) :
    Calls Tryz.prog 146 #[.int .u64 a, .int .u64 b, .int .u64 t] w fun e w' => e = .returned (.int .u64 (L.lessN a b t ||| L.lessN b a t : Nat)) ∧ w' = w := by
  have HLE := hid hle; have HLE2 := hid hle2
  clear hle hle2
  go_enter Tryz.func146, Tryz.ntmps146
  go_wp2_with fail
  refine (lessLanes_any a b t _ ha hb ht HLE.out).mono ?_
  rintro e w' ⟨rfl, rfl⟩
  go_wp2_with fail
  refine (lessLanes_any b a t _ hb ha ht HLE2.out).mono ?_
  rintro e w' ⟨rfl, rfl⟩
  go_wp2
  go_ret
  exact ⟨ret_u64 (u64_or_nat _ _ (lessN_lt _ _ _ ht) (lessN_lt _ _ _ ht)), rfl⟩

/-- what compareWord answers -/
def cmpN (op : Int) (a b t : Nat) : Nat :=
  if op = 1 then t &&& (L.M64 - (L.lessN a b t ||| L.lessN b a t)) else if op = 2 then L.lessN a b t ||| L.lessN b a t else if op = 3 then L.lessN a b t
  else if op = 4 then t &&& (L.M64 - L.lessN b a t) else if op = 5 then L.lessN b a t else t &&& (L.M64 - L.lessN a b t)
set_option maxHeartbeats 1000000 in
theorem compareWord_any (a b t : Nat) (op : Int) (w : World) (ha : a < 18446744073709551616) (hb : b < 18446744073709551616) (ht : t < 18446744073709551616) (hle : b &&& (L.M64 - t) ≤ a ||| t) (hle2 : a &&& (L.M64 - t) ≤ b ||| t) :
    Calls Tryz.prog 94 #[.int .u64 a, .int .u64 b, .int .u64 t, .int .i64 op] w fun e w' => e = .returned (.int .u64 (cmpN op a b t : Nat)) ∧ w' = w := by
  have HLE := hid hle; have HLE2 := hid hle2
  have hx := lessN_lt a b t ht
  have hy := lessN_lt b a t ht
  clear hle hle2
  generalize hxx : L.lessN a b t = x at *
  generalize hyy : L.lessN b a t = y at *
  have H1 := hid (lessLanes_any a b t w ha hb ht HLE.out)
  have H2 := hid (lessLanes_any b a t w hb ha ht HLE2.out)
  have H3 := hid (unequalLanes_any a b t w ha hb ht HLE.out HLE2.out)
  rw [hxx] at H1
  rw [hyy] at H2
  rw [hxx, hyy] at H3
  have HC : Hid (cmpN op a b t = if op = 1 then t &&& (L.M64 - (x ||| y)) else if op = 2 then x ||| y else if op = 3 then x else if op = 4 then t &&& (L.M64 - y) else if op = 5 then y else t &&& (L.M64 - x)) := by
    refine hid ?_; rw [cmpN, hxx, hyy]
  clear hxx hyy HLE HLE2
  go_enter Tryz.func94, Tryz.ntmps94
  by_cases c1 : op = 1
  · subst c1
    go_wp2_with (first
      | (go_at_call 146; refine H3.out.mono ?_; rintro e w' ⟨rfl, rfl⟩))
    go_ret
    exact ⟨ret_u64 (by rw [HC.out]; exact u64_andNot_nat' _ _ ht (or_lt64 hx hy)), rfl⟩
  · by_cases c2 : op = 2
    · subst c2
      go_wp2_with (first
        | (go_at_call 146; refine H3.out.mono ?_; rintro e w' ⟨rfl, rfl⟩))
      go_ret
      exact ⟨ret_u64 (by rw [HC.out]; rfl), rfl⟩
    · by_cases c3 : op = 3
      · subst c3
        go_wp2_with (first
          | (go_at_call 147; refine H1.out.mono ?_; rintro e w' ⟨rfl, rfl⟩))
        go_ret
        exact ⟨ret_u64 (by rw [HC.out]; rfl), rfl⟩
      · by_cases c4 : op = 4
        · subst c4
          go_wp2_with (first
            | (go_at_call 147; refine H2.out.mono ?_; rintro e w' ⟨rfl, rfl⟩))
          go_ret
          exact ⟨ret_u64 (by rw [HC.out]; exact u64_andNot_nat' _ _ ht hy), rfl⟩
        · by_cases c5 : op = 5
          · subst c5
            go_wp2_with (first
              | (go_at_call 147; refine H2.out.mono ?_; rintro e w' ⟨rfl, rfl⟩))
            go_ret
            exact ⟨ret_u64 (by rw [HC.out]; rfl), rfl⟩
          · have d1 : (op == 1) = false := by simpa using c1
            have d2 : (op == 2) = false := by simpa using c2
            have d3 : (op == 3) = false := by simpa using c3
            have d4 : (op == 4) = false := by simpa using c4
            have d5 : (op == 5) = false := by simpa using c5
            have HE : Hid (cmpN op a b t = t &&& (L.M64 - x)) := by refine hid ?_; rw [HC.out]; simp [c1, c2, c3, c4, c5]
            clear c1 c2 c3 c4 c5
            go_wp2_with (first
              | (go_at_call 147; refine H1.out.mono ?_; rintro e w' ⟨rfl, rfl⟩))
            go_ret
            exact ⟨ret_u64 (by rw [HE.out]; exact u64_andNot_nat' _ _ ht hx), rfl⟩
end Go.Proofs.YthonbfojpbfmgaaGreatDoor

/- Package bitvec's marking of lanes in a bitmap, and the bits that a comparison of words sets. -/
set_option linter.unusedVariables false
set_option linter.unusedSimpArgs false
set_option linter.unnecessarySimpa false
set_option maxRecDepth 20000
namespace Go.Proofs.YthonbfojpbfmgaaGreatDoor
open Go.RowKit

/-- the table of math/bits lies where its variable lies -/
def Tab (w : World) : Prop := ∀ j, j < 64 → w.cell? ⟨0, j, none⟩ = some (.int .u8 ((Lib.deBruijn64tab.getD j 0 : Nat) : Int))
theorem Tab.mono {w w' : World} {B : Nat} (h : Tab w) (hb : Below B w w') (hB : 0 < B) : Tab w' := fun j hj => by rw [← h j hj]; exact hb.cell (p := ⟨0, j, none⟩) hB
theorem Tab.lt {w : World} (h : Tab w) : 0 < w.heap.size := World.block_lt_of_cell? w _ (h 0 (by omega))

theorem neg_u64 (x : Nat) (h0 : x ≠ 0) (h : x < 18446744073709551616) : IntKind.u64.wrap (-(x : Int)) = ((18446744073709551616 - x : Nat) : Int) := by rw [IntKind.wrap_u64]; omega
theorem tz_key (x : Nat) (h0 : x ≠ 0) (h : x < 18446744073709551616) :
    IntKind.u64.wrap (bits BinOp.and IntKind.u64 (x : Int) (IntKind.u64.wrap (-(x : Int))) * 285870213051353865) / 288230376151711744 =
      ((2 ^ Lib.ctz 64 x * 285870213051353865 % 18446744073709551616 / 288230376151711744 : Nat) : Int) := by
  have hl := Lib.lowest_bit 64 x h0 h
  rw [neg_u64 x h0 h, u64_and_nat _ _ h (by omega)]
  rw [show x &&& 18446744073709551616 - x = 2 ^ Lib.ctz 64 x from hl.1, IntKind.wrap_u64]
  generalize Lib.ctz 64 x = t
  generalize 2 ^ t = y
  omega
set_option maxHeartbeats 1000000 in
theorem tz_core (x k idx : Nat) (w : World) (hx0 : ((x : Int) == 0) = false)
    (key : IntKind.u64.wrap (bits BinOp.and IntKind.u64 (x : Int) (IntKind.u64.wrap (-(x : Int))) * 285870213051353865) / 288230376151711744 = (idx : Int))
    (hi : idx < 64) (hcell : w.cell? ⟨0, idx, none⟩ = some (.int .u8 (k : Int))) (hk : k < 64) :
    Calls Tryz.prog 148 #[.int .u64 x] w fun e w' => e = .returned (.int .i64 (k : Int)) ∧ w' = w := by
  go_enter Tryz.func148, Tryz.ntmps148
  go_wp2_with (simp only [key])
  go_ret
  exact ⟨rfl, rfl⟩
theorem trailingZeros_any (x : Nat) (w : World) (h0 : x ≠ 0) (h : x < 18446744073709551616) (ht : Tab w) :
    Calls Tryz.prog 148 #[.int .u64 x] w fun e w' => e = .returned (.int .i64 (Lib.ctz 64 x : Nat)) ∧ w' = w := by
  have hk : Lib.ctz 64 x < 64 := (Lib.lowest_bit 64 x h0 h).2
  have hdb := Lib.deBruijn64_at _ hk
  refine tz_core x (Lib.ctz 64 x) _ w (by simpa using h0) (tz_key x h0 h) hdb.1 ?_ hk
  rw [ht _ hdb.1, hdb.2]

set_option maxHeartbeats 400000 in
/-- one bit more in a bitmap -/
theorem setBit_any (g n cap i : Nat) (ys : List Nat) (w : World) (hr : Row w g 40 (u64s ys)) (hn : ys.length = n) (hnc : n ≤ cap) (hi : i < 64 * n) (hy : ∀ x ∈ ys, x < 18446744073709551616) (hi2 : i ≤ 9223372036854775807) :
    Calls Tryz.prog 99 #[.slice (some ⟨g, 0, none⟩) n cap, .int .i64 i] w fun e w' => e = .returned (.tuple #[]) ∧
      Row w' g 40 (u64s (ys.set (i / 64) (ys.getD (i / 64) 0 ||| 2 ^ (i % 64)))) ∧ Below g w w' ∧ w'.heap.size = w.heap.size ∧ ∀ k, k ≠ g → w'.heap[k]? = w.heap[k]? := by
  subst hn
  obtain ⟨d, hd⟩ : ∃ d, i / 64 = d := ⟨_, rfl⟩
  obtain ⟨r, hr'⟩ : ∃ r, i % 64 = r := ⟨_, rfl⟩
  have hd' : (i : Int) / 64 = (d : Int) := by omega
  have hrr : (i : Int) % 64 = (r : Int) := by omega
  have hr64 : r < 64 := by omega
  have hdl : d < ys.length := by omega
  have hcell : w.cell? ⟨g, d, none⟩ = some (.int .u64 ((ys.getD d 0 : Nat) : Int)) := by rw [hr.cell]; exact u64s_get ys d hdl
  have hfr := hr.frozen d
  have hyd : ys.getD d 0 < 18446744073709551616 := L.getD_lt (w := 64) (fun a ha => by have := hy a ha; omega) d
  have HOR := hid (or_u64_bit (ys.getD d 0) r hyd hr64)
  have HS := hid (hr.set d (.int .u64 ((ys.getD d 0 ||| 2 ^ r : Nat) : Int)))
  rw [hd, hr']
  clear hd hr' hr
  generalize hq : ys.getD d 0 = q at *
  clear hq
  go_enter Tryz.func99, Tryz.ntmps99
  go_wp2
  go_end0
  rw [HOR.out]
  refine ⟨rfl, ?_, below_set (Below.refl _ _) _ _ _ (Nat.le_refl _), by simp [World.setCell], fun k hk => heap_setCell_other _ _ k _ hk⟩
  rw [← u64s_set]
  exact HS.out

theorem everyLane_any (wd p : Nat) (w : World) (h0 : 0 < wd) (hk : wd ≤ 64) (hp : 64 / wd = p) :
    Calls Tryz.prog 92 #[.int .i64 wd] w fun e w' => e = .returned (.int .u64 (L.wordOf wd (List.replicate p 1) : Nat)) ∧ w' = w := by
  have HP := hid hp
  have hp64 : p ≤ 64 := by rw [← hp]; exact Nat.div_le_self _ _
  have HPW : Hid (p * wd ≤ 64) := by refine hid ?_; rw [← hp]; exact L.per_mul wd
  clear hp
  go_enter Tryz.func92, Tryz.ntmps92
  go_wp2_with (go_at_call 96; refine (lanesPerWord_any wd p _ (by omega) (by omega) HP.out).mono ?_; rintro e w' ⟨rfl, rfl⟩)
  go_loop [3, 7] (fun u i => ∃ j : Nat, j ≤ p ∧ i = .int .i64 j ∧ u = .int .u64 (L.wordOf wd (List.replicate j 1) : Nat)) (fun _ i => p - (intOf i).toNat)
  case atStart => exact ⟨0, by omega, rfl, rfl⟩
  case round =>
    obtain ⟨j, hj, rfl, rfl⟩ := hrel
    have h1w : (1 : Nat) < 2 ^ wd := Nat.one_lt_two_pow (by omega)
    have hlt64 : L.wordOf wd (List.replicate j 1) < 2 ^ (wd * j) := by
      have := L.wordOf_lt wd (List.replicate j 1) fun x hx => by rw [List.eq_of_mem_replicate hx]; exact h1w
      rwa [List.length_replicate] at this
    by_cases hlt : j < p
    · have hsn : L.wordOf wd (List.replicate (j + 1) 1) = L.wordOf wd (List.replicate j 1) + 1 * 2 ^ (wd * j) := by
        rw [List.replicate_succ', L.wordOf_snoc, List.length_replicate]
      have hjw : (j + 1) * wd ≤ 64 := Nat.le_trans (Nat.mul_le_mul_right wd hlt) HPW.out
      have hor := or_lane (L.wordOf wd (List.replicate j 1)) 1 wd j hlt64 h1w hjw
      rw [← hsn] at hor
      obtain ⟨q, hq⟩ : ∃ q, j * wd = q := ⟨_, rfl⟩
      have hq' : (j : Int) * (wd : Int) = (q : Int) := by rw [← hq]; simp
      have hq64 : q ≤ 64 := by rw [← hq]; exact Nat.le_trans (Nat.mul_le_mul_right wd (by omega)) HPW.out
      rw [hq, show ((1 : Nat) : Int) * 2 ^ q = 2 ^ q from by simp] at hor
      have HO := hid hor
      clear hq hsn hlt64 hor h1w
      generalize L.wordOf wd (List.replicate j 1) = a at *
      go_wp2
      go_round
      case rel => exact ⟨j + 1, by omega, by go_num, by rw [HO.out]⟩
      case measure => simp [intOf]; omega
    · go_wp2
      go_ret
      rw [show j = p from by omega]
      exact ⟨rfl, rfl⟩

/-- does a hit, laid from 'first' on, fall at place i? -/
def hitAt (wd first hits i : Nat) : Bool := (List.range 64).any fun p => hits.testBit p && decide (first + p / wd = i)
theorem hitAt_zero (wd first i : Nat) : hitAt wd first 0 i = false := by simp [hitAt]
theorem hitAt_clear (wd first h i : Nat) (h0 : h ≠ 0) (hlt : h < 18446744073709551616) :
    hitAt wd first h i = (hitAt wd first (h &&& (h - 1)) i || decide (i = first + Lib.ctz 64 h / wd)) := by
  have hc := clear_lowest h h0 hlt
  have hk : Lib.ctz 64 h < 64 := (Lib.lowest_bit 64 h h0 hlt).2
  rw [Bool.eq_iff_iff]
  simp only [hitAt, Bool.or_eq_true, List.any_eq_true, List.mem_range, Bool.and_eq_true, decide_eq_true_eq]
  constructor
  · rintro ⟨p, hp, h1, h2⟩
    by_cases hpt : p = Lib.ctz 64 h
    · right; rw [← h2, hpt]
    · left; exact ⟨p, hp, by rw [(hc p).1, h1]; simp [hpt], h2⟩
  · rintro (⟨p, hp, h1, h2⟩ | h2)
    · rw [(hc p).1] at h1
      simp only [Bool.and_eq_true] at h1
      exact ⟨p, hp, h1.1, h2⟩
    · exact ⟨Lib.ctz 64 h, hk, (hc 0).2.1, h2.symm⟩

set_option maxHeartbeats 2000000 in
theorem markLanes_any (g n cap first wd hits : Nat) (ys : List Nat) (w : World) (ht : Tab w) (hgt : 0 < g) (hr : Row w g 40 (u64s ys)) (hn : ys.length = n) (hnc : n ≤ cap) (hn2 : n ≤ 65536) (hy : ∀ x ∈ ys, x < 18446744073709551616)
    (h0 : 0 < wd) (hwd : wd ≤ 64) (hh : hits < 18446744073709551616) (hf : first ≤ 65536) (hfit : ∀ p, hits.testBit p = true → first + p / wd < 64 * n) :
    Calls Tryz.prog 95 #[.slice (some ⟨g, 0, none⟩) n cap, .int .i64 first, .int .i64 wd, .int .u64 hits] w fun e w' => e = .returned (.tuple #[]) ∧
      (∃ zs : List Nat, Row w' g 40 (u64s zs) ∧ zs.length = n ∧ (∀ x ∈ zs, x < 18446744073709551616) ∧ ∀ i, bitOf zs i = (bitOf ys i || hitAt wd first hits i)) ∧ Below g w w' ∧ w'.heap.size = w.heap.size := by
  have HFIT := hid hfit; have HY := hid hy; have HR := hid hr; have HN := hid hn; have HT := hid ht
  clear hfit hy hr hn ht
  go_enter Tryz.func95, Tryz.ntmps95
  go_wp2
  go_loopw [3] (fun u wr => ∃ (h : Nat) (zs : List Nat), u = .int .u64 h ∧ h < 18446744073709551616 ∧ Row wr g 40 (u64s zs) ∧ zs.length = n ∧ (∀ x ∈ zs, x < 18446744073709551616) ∧
      (∀ p, h.testBit p = true → hits.testBit p = true) ∧ (∀ i, (bitOf zs i || hitAt wd first h i) = (bitOf ys i || hitAt wd first hits i)) ∧ Below g w wr ∧ Hid (wr.heap.size = w.heap.size)) (fun u _ => (intOf u).toNat)
  case atStart => exact ⟨hits, ys, rfl, hh, HR.out, HN.out, HY.out, fun p h => h, fun i => rfl, Below.refl _ _, rfl⟩
  case round =>
    obtain ⟨h, zs, rfl, hlt, hr, hzn, hz, hsub, hacc, hb, hsz⟩ := hrel
    have HRZ := hid hr; have HZN := hid hzn; have HZ := hid hz; have HSUB := hid hsub; have HACC := hid hacc
    clear hr hzn hz hsub hacc
    by_cases hz0 : h = 0
    · subst hz0
      go_wp2
      go_end0
      refine ⟨rfl, ⟨zs, HRZ.out, HZN.out, HZ.out, fun i => ?_⟩, hb, hsz.out⟩
      have := HACC.out i
      rw [hitAt_zero, Bool.or_false] at this
      exact this
    · have hc := clear_lowest h hz0 hlt
      have hk : Lib.ctz 64 h < 64 := (Lib.lowest_bit 64 h hz0 hlt).2
      have HTZ := hid (trailingZeros_any h wr hz0 hlt (HT.out.mono hb hgt))
      have HCL := hid (fun i => hitAt_clear wd first h i hz0 hlt)
      have hfi := HFIT.out _ (HSUB.out _ (hc 0).2.1)
      have HC := hid hc
      have hne : ((h : Int) != 0) = true := by rw [bne_iff_ne]; omega
      obtain ⟨t, htt⟩ : ∃ t, Lib.ctz 64 h = t := ⟨_, rfl⟩
      rw [htt] at hk hfi HTZ HCL HC
      obtain ⟨d, hd⟩ : ∃ d, t / wd = d := ⟨_, rfl⟩
      have hd' : (t : Int) / (wd : Int) = (d : Int) := by rw [← hd]; simp
      have hdt : d ≤ t := by rw [← hd]; exact Nat.div_le_self _ _
      rw [hd] at hfi HCL
      have hh1 : ((h : Int) - 1) = ((h - 1 : Nat) : Int) := by omega
      have HAND : Hid (bits BinOp.and IntKind.u64 (h : Int) ((h : Int) - 1) = ((h &&& (h - 1) : Nat) : Int)) := by refine hid ?_; rw [hh1]; exact u64_and_nat _ _ hlt (by omega)
      clear hc htt hd hh1
      go_wp2_with (first
        | (go_at_call 148; refine HTZ.out.mono ?_; rintro e w' ⟨rfl, rfl⟩)
        | (go_at_call 99; refine (setBit_any g n cap (first + d) zs _ HRZ.out HZN.out hnc hfi HZ.out (by omega)).mono ?_; rintro e w2 ⟨rfl, hr2, hb2, hs2, _⟩; have HS2 := hid hs2; clear hs2))
      go_roundw
      case rel =>
        refine ⟨h &&& (h - 1), _, by rw [HAND.out], and_lt64 _ hlt, hr2, by rw [List.length_set]; exact HZN.out, set_lt64 zs HZ.out _, fun p hp => ?_, fun i => ?_, hb.trans hb2, ?_⟩
        · rw [(HC.out p).1] at hp
          simp only [Bool.and_eq_true] at hp
          exact HSUB.out p hp.1
        · rw [← HACC.out i, bitOf_set zs (first + d) (by rw [HZN.out]; exact hfi), HCL.out i]
          cases bitOf zs i <;> cases hitAt wd first (h &&& (h - 1)) i <;> cases decide (i = first + d) <;> rfl
        · show _ = _; rw [HS2.out]; exact hsz.out
      case measure =>
        rw [HAND.out]
        simp only [intOf, Int.toNat_natCast]
        exact (HC.out 0).2.2
end Go.Proofs.YthonbfojpbfmgaaGreatDoor

/- What comparing a word of lanes sets, as plain mathematics. -/
set_option linter.unusedVariables false
set_option linter.unusedSimpArgs false
set_option linter.unnecessarySimpa false
set_option maxRecDepth 20000
namespace Go.Proofs.YthonbfojpbfmgaaGreatDoor
open Go.RowKit

theorem wordOf_mul (w c : Nat) (xa : List Nat) : L.wordOf w (xa.map (c * ·)) = c * L.wordOf w xa := by
  induction xa with
  | nil => simp [L.wordOf]
  | cons a xa ih =>
    simp only [List.map_cons, L.wordOf, ih, Nat.mul_add]
    rw [← Nat.mul_assoc, Nat.mul_comm (2 ^ w) c, Nat.mul_assoc]
theorem wordOf_rep (w n c : Nat) : L.wordOf w (List.replicate n c) = c * L.wordOf w (List.replicate n 1) := by
  rw [← wordOf_mul]; simp
theorem wordOf_lt64 (w n : Nat) (xa : List Nat) (hl : xa.length = n) (h : ∀ a ∈ xa, a < 2 ^ w) (h64 : n * w ≤ 64) : L.wordOf w xa < 18446744073709551616 := by
  have := L.wordOf_lt w xa h
  rw [hl, Nat.mul_comm] at this
  have := pow_le_64 h64
  omega
theorem rep_lt {n c m : Nat} (h : c < m) : ∀ x ∈ List.replicate n c, x < m := fun x hx => by rw [List.eq_of_mem_replicate hx]; exact h
theorem rep_getD (n c j : Nat) : (List.replicate n c).getD j 0 = if j < n then c else 0 := by
  simp only [List.getD, List.getElem?_replicate]; split <;> rfl

section
variable {w n : Nat} {xa xb : List Nat}
theorem cmpN_bit (op : Int) (hn1 : xa.length = n) (hn2 : xb.length = n) (ha : ∀ a ∈ xa, a < 2 ^ (w + 1)) (hb : ∀ b ∈ xb, b < 2 ^ (w + 1)) (h64 : n * (w + 1) ≤ 64) (p : Nat) :
    (cmpN op (L.wordOf (w + 1) xa) (L.wordOf (w + 1) xb) (L.wordOf (w + 1) (List.replicate n (2 ^ w)))).testBit p =
      (decide (p / (w + 1) < n ∧ p % (w + 1) = w) && standsB op (xa.getD (p / (w + 1)) 0) (xb.getD (p / (w + 1)) 0)) := by
  have h1 := L.lessN_bit hn1 hn2 ha hb h64 p
  have h2 := L.lessN_bit hn2 hn1 hb ha h64 p
  have hpw : 2 ^ w < 2 ^ (w + 1) := Nat.pow_lt_pow_right (by omega) (by omega)
  have hT := wordOf_lt64 (w + 1) n (List.replicate n (2 ^ w)) (by simp) (rep_lt hpw) h64
  have ht : (L.wordOf (w + 1) (List.replicate n (2 ^ w))).testBit p = decide (p / (w + 1) < n ∧ p % (w + 1) = w) := by
    rw [L.wordOf_testBit (by omega) _ (rep_lt hpw), rep_getD]
    by_cases hj : p / (w + 1) < n
    · rw [if_pos hj, Nat.testBit_two_pow, decide_eq_decide]; omega
    · rw [if_neg hj]; simp [hj]
  have hx64 := lessN_lt (L.wordOf (w + 1) xa) (L.wordOf (w + 1) xb) _ hT
  have hy64 := lessN_lt (L.wordOf (w + 1) xb) (L.wordOf (w + 1) xa) _ hT
  unfold cmpN
  generalize L.lessN (L.wordOf (w + 1) xa) (L.wordOf (w + 1) xb) (L.wordOf (w + 1) (List.replicate n (2 ^ w))) = X at *
  generalize L.lessN (L.wordOf (w + 1) xb) (L.wordOf (w + 1) xa) (L.wordOf (w + 1) (List.replicate n (2 ^ w))) = Y at *
  generalize hTT : L.wordOf (w + 1) (List.replicate n (2 ^ w)) = T at *
  have hp64 : (p / (w + 1) < n ∧ p % (w + 1) = w) → p < 64 := by
    rintro ⟨hj, hr⟩
    have h1 := Nat.div_add_mod p (w + 1)
    have h3 : (p / (w + 1) + 1) * (w + 1) ≤ n * (w + 1) := Nat.mul_le_mul_right _ hj
    rw [Nat.add_mul, Nat.one_mul, Nat.mul_comm] at h3
    omega
  have hXY : (X ||| Y) < 2 ^ 64 := Nat.or_lt_two_pow (n := 64) hx64 hy64
  generalize xa.getD (p / (w + 1)) 0 = x at *
  generalize xb.getD (p / (w + 1)) 0 = y at *
  unfold standsB
  by_cases hin : p / (w + 1) < n ∧ p % (w + 1) = w
  · have h64' := hp64 hin
    simp only [hin, and_self, decide_true, Bool.true_and] at h1 h2 ht ⊢
    split
    · rw [Nat.testBit_and, L.M64_sub_testBit _ _ hXY, Nat.testBit_or, ht, h1, h2]
      simp only [h64', decide_true, Bool.true_and]
      by_cases c1 : x < y <;> by_cases c2 : y < x <;> simp [c1, c2] <;> omega
    · split
      · rw [Nat.testBit_or, h1, h2]
        by_cases c1 : x < y <;> by_cases c2 : y < x <;> simp [c1, c2] <;> omega
      · split
        · exact h1
        · split
          · rw [Nat.testBit_and, L.M64_sub_testBit _ _ hy64, ht, h2]
            simp only [h64', decide_true, Bool.true_and]
            by_cases c2 : y < x <;> simp [c2] <;> omega
          · split
            · exact h2
            · rw [Nat.testBit_and, L.M64_sub_testBit _ _ hx64, ht, h1]
              simp only [h64', decide_true, Bool.true_and]
              by_cases c2 : x < y <;> simp [c2] <;> omega
  · have hd : decide (p / (w + 1) < n ∧ p % (w + 1) = w) = false := decide_eq_false hin
    rw [hd, Bool.false_and] at h1 h2 ⊢
    rw [hd] at ht
    split
    · rw [Nat.testBit_and, ht, Bool.false_and]
    · split
      · rw [Nat.testBit_or, h1, h2]; rfl
      · split
        · exact h1
        · split
          · rw [Nat.testBit_and, ht, Bool.false_and]
          · split
            · exact h2
            · rw [Nat.testBit_and, ht, Bool.false_and]
/-- where the hits of a word's first c lanes fall -/
theorem hits_at (op : Int) (c first i : Nat) (hn1 : xa.length = n) (hn2 : xb.length = n) (ha : ∀ a ∈ xa, a < 2 ^ (w + 1)) (hb : ∀ b ∈ xb, b < 2 ^ (w + 1)) (h64 : n * (w + 1) ≤ 64) (hc : c ≤ n) :
    hitAt (w + 1) first (cmpN op (L.wordOf (w + 1) xa) (L.wordOf (w + 1) xb) (L.wordOf (w + 1) (List.replicate n (2 ^ w))) &&& (2 ^ (c * (w + 1)) - 1)) i =
      (decide (first ≤ i ∧ i < first + c) && standsB op (xa.getD (i - first) 0) (xb.getD (i - first) 0)) := by
  rw [Bool.eq_iff_iff]
  simp only [hitAt, List.any_eq_true, List.mem_range, Bool.and_eq_true, decide_eq_true_eq, Nat.testBit_and, Nat.testBit_two_pow_sub_one, cmpN_bit op hn1 hn2 ha hb h64]
  constructor
  · rintro ⟨p, hp, ⟨⟨⟨h1, h2⟩, h3⟩, h4⟩, h5⟩
    have h6 : p / (w + 1) < c := Nat.div_lt_of_lt_mul (by rw [Nat.mul_comm]; exact h4)
    generalize p / (w + 1) = q at *
    have e : i - first = q := by omega
    rw [e]
    exact ⟨by omega, h3⟩
  · rintro ⟨⟨h1, h2⟩, h3⟩
    have e : ((i - first) * (w + 1) + w) / (w + 1) = i - first := by
      rw [Nat.mul_comm, Nat.mul_add_div (by omega), Nat.div_eq_of_lt (by omega), Nat.add_zero]
    have e2 : ((i - first) * (w + 1) + w) % (w + 1) = w := by rw [Nat.mul_comm, Nat.mul_add_mod, Nat.mod_eq_of_lt (by omega)]
    have h6 : (i - first + 1) * (w + 1) ≤ n * (w + 1) := Nat.mul_le_mul_right _ (by omega)
    have h7 : (i - first + 1) * (w + 1) ≤ c * (w + 1) := Nat.mul_le_mul_right _ (by omega)
    rw [Nat.add_mul, Nat.one_mul] at h6 h7
    refine ⟨(i - first) * (w + 1) + w, by omega, ⟨⟨⟨?_, e2⟩, ?_⟩, by omega⟩, ?_⟩
    · rw [e]; omega
    · rw [e]; exact h3
    · rw [e]; omega
end

/-- which lanes stand in the relation -/
def cmpF (wd : Nat) (op : Int) (xs : List Nat) (c : Nat) (i : Nat) : Bool := standsB op (L.laneOf wd xs i) c
def cmpOk (wd n op : Int) (xs : List Nat) : Bool := isRel op && okPack wd n xs
def cmpR (wd n op : Int) (xs : List Nat) (c : Nat) : List Nat := if cmpOk wd n op xs = true then bmL ((List.range n.toNat).map (cmpF wd.toNat op xs c)) else []
theorem bmL_len (fl : List Bool) : (bmL fl).length = L.nWords 1 fl.length := (bmL_isBm fl).1
theorem cmpR_lt (wd n op : Int) (xs : List Nat) (c : Nat) : ∀ x ∈ cmpR wd n op xs c, x < 18446744073709551616 := by
  intro x hx
  unfold cmpR at hx
  split at hx
  · exact (bmL_isBm _).2.1 x hx
  · cases hx
theorem cmpR_len (wd n op : Int) (xs : List Nat) (c : Nat) : (cmpR wd n op xs c).length ≤ 65536 := by
  unfold cmpR
  split
  · rename_i h
    simp only [cmpOk, okPack, okLim, Bool.and_eq_true, decide_eq_true_eq] at h
    rw [bmL_len]
    have := L.nWords_le (w := 1) (n := ((List.range n.toNat).map (cmpF wd.toNat op xs c)).length) (by omega)
    simp at this ⊢; omega
  · simp
end Go.Proofs.YthonbfojpbfmgaaGreatDoor

/- The plain answer's Compare, and the bitmaps that it makes. -/
set_option linter.unusedVariables false
set_option linter.unusedSimpArgs false
set_option linter.unnecessarySimpa false
set_option maxRecDepth 20000
namespace Go.Proofs.YthonbfojpbfmgaaGreatDoor
open Go.RowKit

def standsS (op sign : Int) : Bool :=
  if op = 1 then decide (sign = 0) else if op = 2 then decide (sign ≠ 0) else if op = 3 then decide (sign < 0) else if op = 4 then decide (sign ≤ 0) else if op = 5 then decide (0 < sign) else decide (op = 6) && decide (0 ≤ sign)
def bools (fl : List Bool) : List Value := fl.map Value.bool
theorem bools_get (fl : List Bool) (i : Nat) (h : i < fl.length) : (bools fl)[i]? = some (.bool (fl.getD i false)) := by
  simp [bools, List.getElem?_eq_getElem h, List.getD]

end Go.Proofs.YthonbfojpbfmgaaGreatDoor

/- Package bitvec's counting of set bits. -/
set_option linter.unusedVariables false
set_option linter.unusedSimpArgs false
set_option linter.unnecessarySimpa false
set_option maxRecDepth 20000
namespace Go.Proofs.YthonbfojpbfmgaaGreatDoor
open Go.RowKit

theorem add_u64 (a b : Nat) (h : a + b < 18446744073709551616) : IntKind.u64.wrap ((a : Int) + (b : Int)) = ((a + b : Nat) : Int) := by rw [IntKind.wrap_u64]; omega
set_option maxHeartbeats 1000000 in
theorem onesCount_any (x : Nat) (w : World) (hx : x < 18446744073709551616) : Calls Tryz.prog 117 #[.int .u64 x] w fun e w' => e = .returned (.int .i64 (L.popN 64 x : Nat)) ∧ w' = w := by
  obtain ⟨a, ha⟩ : ∃ a, (x / 2 &&& 6148914691236517205) + (x &&& 6148914691236517205) = a := ⟨_, rfl⟩
  obtain ⟨b, hb⟩ : ∃ b, (a / 4 &&& 3689348814741910323) + (a &&& 3689348814741910323) = b := ⟨_, rfl⟩
  obtain ⟨c, hc⟩ : ∃ c, (b / 16 + b) &&& 1085102592571150095 = c := ⟨_, rfl⟩
  have m0 : ∀ y, y &&& 6148914691236517205 ≤ 6148914691236517205 := fun y => Nat.and_le_right
  have m1 : ∀ y, y &&& 3689348814741910323 ≤ 3689348814741910323 := fun y => Nat.and_le_right
  have hal : a ≤ 12297829382473034410 := by have := m0 (x / 2); have := m0 x; omega
  have hbl : b ≤ 7378697629483820646 := by have := m1 (a / 4); have := m1 a; omega
  have hsw := L.swar_pop x hx
  have hs3 : L.swar3 x = c := by unfold L.swar3; simp only; rw [ha, hb, hc]
  have h1 : IntKind.u64.wrap (bits BinOp.and IntKind.u64 ((x : Int) / 2) 6148914691236517205 + bits BinOp.and IntKind.u64 (x : Int) 6148914691236517205) = (a : Int) := by
    have e1 := u64_and_nat (x / 2) 6148914691236517205 (by omega) (by decide)
    have e2 := u64_and_nat x 6148914691236517205 hx (by decide)
    have e3 : ((x : Int) / 2) = ((x / 2 : Nat) : Int) := by simp
    rw [e3, show (6148914691236517205 : Int) = ((6148914691236517205 : Nat) : Int) from rfl, e1, e2, add_u64 _ _ (by have := m0 (x / 2); have := m0 x; omega), ha]
  have h2 : IntKind.u64.wrap (bits BinOp.and IntKind.u64 ((a : Int) / 4) 3689348814741910323 + bits BinOp.and IntKind.u64 (a : Int) 3689348814741910323) = (b : Int) := by
    have e1 := u64_and_nat (a / 4) 3689348814741910323 (by omega) (by decide)
    have e2 := u64_and_nat a 3689348814741910323 (by omega) (by decide)
    have e3 : ((a : Int) / 4) = ((a / 4 : Nat) : Int) := by simp
    rw [e3, show (3689348814741910323 : Int) = ((3689348814741910323 : Nat) : Int) from rfl, e1, e2, add_u64 _ _ (by have := m1 (a / 4); have := m1 a; omega), hb]
  have h3 : bits BinOp.and IntKind.u64 (IntKind.u64.wrap ((b : Int) / 16 + (b : Int))) 1085102592571150095 = (c : Int) := by
    have e3 : ((b : Int) / 16) = ((b / 16 : Nat) : Int) := by simp
    have hb16 : b / 16 + b < 18446744073709551616 := by omega
    have e1 := u64_and_nat (b / 16 + b) 1085102592571150095 hb16 (by decide)
    rw [e3, add_u64 _ _ hb16, show (1085102592571150095 : Int) = ((1085102592571150095 : Nat) : Int) from rfl, e1, hc]
  rw [hs3] at hsw
  have HSW := hid hsw
  have HS3 := hid hs3
  clear ha hb hc m0 m1 hal hbl hs3 hsw
  obtain ⟨d, hd⟩ : ∃ d, c + c / 256 = d := ⟨_, rfl⟩
  obtain ⟨e, he⟩ : ∃ e, d + d / 65536 = e := ⟨_, rfl⟩
  obtain ⟨f, hf⟩ : ∃ f, e + e / 4294967296 = f := ⟨_, rfl⟩
  have hcl := HSW.out.2
  have h4 : IntKind.u64.wrap ((c : Int) + (c : Int) / 256) = (d : Int) := by
    have e3 : ((c : Int) / 256) = ((c / 256 : Nat) : Int) := by simp
    rw [e3, add_u64 _ _ (by omega), hd]
  have h5 : IntKind.u64.wrap ((d : Int) + (d : Int) / 65536) = (e : Int) := by
    have e3 : ((d : Int) / 65536) = ((d / 65536 : Nat) : Int) := by simp
    rw [e3, add_u64 _ _ (by omega), he]
  have h6 : IntKind.u64.wrap ((e : Int) + (e : Int) / 4294967296) = (f : Int) := by
    have e3 : ((e : Int) / 4294967296) = ((e / 4294967296 : Nat) : Int) := by simp
    rw [e3, add_u64 _ _ (by omega), hf]
  have hfl : f < 9223372036854775808 := by omega
  have HP : Hid (f % 128 = L.popN 64 x) := by
    refine hid ?_
    rw [← HSW.out.1]; unfold L.swar; simp only; rw [HS3.out, hd, he, hf]
  have HFL := hid hfl
  clear hd he hf hcl hfl
  go_enter Tryz.func117, Tryz.ntmps117
  go_wp2
  go_ret
  refine ⟨ret_i64 ?_, rfl⟩
  rw [i64_and127]
  have h7 : wrap64 (f : Int) = (f : Int) := by have := HFL.out; unfold wrap64; omega
  rw [h7, ← HP.out]; simp
theorem countWord_any (x : Nat) (w : World) (hx : x < 18446744073709551616) : Calls Tryz.prog 67 #[.int .u64 x] w fun e w' => e = .returned (.int .i64 (L.popN 64 x : Nat)) ∧ w' = w := by
  go_enter Tryz.func67, Tryz.ntmps67
  go_wp2_with (go_at_call 117; refine (onesCount_any x _ hx).mono ?_; rintro e w' ⟨rfl, rfl⟩)
  go_ret
  exact ⟨rfl, rfl⟩

/-- how many bits of the words are set -/
def popL : List Nat → Nat
  | [] => 0
  | x :: xs => L.popN 64 x + popL xs
theorem popL_append (a b : List Nat) : popL (a ++ b) = popL a + popL b := by
  induction a with
  | nil => simp [popL]
  | cons x a ih => simp only [List.cons_append, popL, ih]; omega
theorem popL_le (a : List Nat) : popL a ≤ 64 * a.length := by
  induction a with
  | nil => simp [popL]
  | cons x a ih => simp only [popL, List.length_cons]; have := L.popN_le 64 x; omega
set_option maxHeartbeats 400000 in
theorem countSet_any (v : Value) (xs : List Nat) (w : World) (hx : Rd w v xs.length 1 (u64s xs)) (hv : ∀ x ∈ xs, x < 18446744073709551616) (hl : xs.length ≤ 65536) :
    Calls Tryz.prog 66 #[v] w fun e w' => e = .returned (.int .i64 (popL xs : Nat)) ∧ w' = w := by
  obtain ⟨A, ca, rfl, hlc, hcm, hA⟩ := hx.form
  clear hx hlc hcm
  go_enter Tryz.func66, Tryz.ntmps66
  go_wp2
  go_loop [3, 8] (fun c i => ∃ j : Nat, j ≤ xs.length ∧ i = .int .i64 j ∧ c = .int .i64 (popL (xs.take j) : Nat)) (fun _ i => xs.length - (intOf i).toNat)
  case atStart => exact ⟨0, by omega, rfl, by simp [popL]⟩
  case round =>
    obtain ⟨j, hj, rfl, rfl⟩ := hrel
    by_cases hlt : j < xs.length
    · obtain ⟨b, o, rfl, hs⟩ := hA (by omega)
      have c1 := hs.word j hlt
      have HX := hid (hv (xs.getD j 0) (by simp [List.getD, List.getElem?_eq_getElem hlt]))
      have HT : Hid (popL (xs.take (j + 1)) = popL (xs.take j) + L.popN 64 (xs.getD j 0)) := by
        refine hid ?_
        rw [List.take_succ_eq_append_getElem hlt, popL_append]
        simp [popL, List.getD, List.getElem?_eq_getElem hlt]
      have hle := popL_le (xs.take j)
      have hll : (xs.take j).length = j := by rw [List.length_take]; omega
      rw [hll] at hle
      have hp := L.popN_le 64 (xs.getD j 0)
      clear hs hA hll
      generalize xs.getD j 0 = x at *
      generalize popL (xs.take j) = a at *
      have HC := hid (countWord_any x w HX.out)
      generalize L.popN 64 x = pc at *
      go_wp2_with (go_at_call 67; refine HC.out.mono ?_; rintro e w' ⟨rfl, rfl⟩)
      go_round
      case rel => exact ⟨j + 1, by omega, by go_num, by rw [HT.out]; go_num⟩
      case measure => simp [intOf]; omega
    · go_wp2
      go_ret
      rw [show j = xs.length from by omega, List.take_length]
      exact ⟨rfl, rfl⟩

/-- how many bits are set below place i -/
def rankN (ws : List Nat) (i : Nat) : Nat := ((List.range i).filter (bitOf ws)).length
theorem rankN_succ (ws : List Nat) (i : Nat) : rankN ws (i + 1) = rankN ws i + if bitOf ws i then 1 else 0 := by
  unfold rankN
  rw [List.range_succ, List.filter_append, List.length_append]
  congr 1
  cases h : bitOf ws i <;> simp [List.filter_cons, h]
theorem rankN_word (ws : List Nat) (q r : Nat) (hr : r ≤ 64) : rankN ws (64 * q + r) = rankN ws (64 * q) + L.popN r (ws.getD q 0) := by
  induction r with
  | zero => simp [L.popN]
  | succ r ih =>
    rw [← Nat.add_assoc, rankN_succ, ih (by omega), L.popN_snoc]
    have e : bitOf ws (64 * q + r) = (ws.getD q 0).testBit r := by
      unfold bitOf; rw [show (64 * q + r) / 64 = q from by omega, show (64 * q + r) % 64 = r from by omega]
    rw [e]; omega
theorem rankN_words (ws : List Nat) (q : Nat) (hq : q ≤ ws.length) : rankN ws (64 * q) = popL (ws.take q) := by
  induction q with
  | zero => simp [rankN, popL]
  | succ q ih =>
    rw [show 64 * (q + 1) = 64 * q + 64 from by omega, rankN_word ws q 64 (by omega), ih (by omega), List.take_succ_eq_append_getElem (by omega), popL_append]
    simp [popL, List.getD, List.getElem?_eq_getElem (show q < ws.length by omega)]
theorem popN_low (x r : Nat) (hr : r ≤ 64) : L.popN 64 (x &&& (2 ^ r - 1)) = L.popN r x := by
  rw [Nat.and_two_pow_sub_one_eq_mod]
  have h := L.popN_add r (64 - r) (x % 2 ^ r)
  rw [show r + (64 - r) = 64 from by omega, L.popN_mod, Nat.div_eq_of_lt (Nat.mod_lt _ (Nat.pow_pos (by omega)))] at h
  have hz : ∀ k, L.popN k 0 = 0 := by intro k; induction k with | zero => rfl | succ k ih => simp [L.popN, ih]
  rw [h, hz, Nat.add_zero]

theorem isBitmap_any (v : Value) (xs : List Nat) (n : Int) (w : World) (hx : Rd w v xs.length 1 (u64s xs)) (hv : ∀ x ∈ xs, x < 18446744073709551616) (hl : xs.length ≤ maxLen) :
    Calls Tryz.prog 65 #[v, .int .i64 n] w fun e w' => e = .returned (.bool (okPack 1 n xs)) ∧ w' = w := by
  have H := hid (isPacking_any v xs 1 n w hx hv hl)
  clear hx hl
  go_enter Tryz.func65, Tryz.ntmps65
  go_wp2_with (go_at_call 88; refine H.out.mono ?_; rintro e w' ⟨rfl, rfl⟩)
  go_ret
  exact ⟨rfl, rfl⟩

/-- what Rank answers -/
def rankR (n i : Int) (xs : List Nat) : Int := if okPack 1 n xs = true ∧ 0 ≤ i ∧ i ≤ n then (rankN xs i.toNat : Int) else -1

theorem Rd.take {w : World} {A : Option Addr} {n cap : Nat} {xs : List Nat} (h : Rd w (.slice A n cap) n 1 (u64s xs)) (q : Nat) (hq : q ≤ n) : Rd w (.slice A q cap) q 1 (u64s (xs.take q)) := by
  have hl : xs.length = n := by have := h.1; simpa [u64s] using this
  have e : u64s (xs.take q) = (u64s xs).take q := by simp [u64s, List.map_take]
  rcases h.2 with ⟨⟨A', hA'⟩, rfl⟩ | ⟨b, o, cap', hA', h1, h2, hs⟩
  · have : q = 0 := by omega
    subst this
    simp only [Value.slice.injEq] at hA'
    obtain ⟨rfl, -, rfl⟩ := hA'
    exact ⟨by simp [u64s], .inl ⟨⟨_, rfl⟩, rfl⟩⟩
  · simp only [Value.slice.injEq] at hA'
    obtain ⟨rfl, -, rfl⟩ := hA'
    refine ⟨by rw [e]; simp [u64s]; omega, .inr ⟨b, o, _, rfl, by omega, h2, ?_⟩⟩
    intro i v hv
    rw [e, List.getElem?_take] at hv
    split at hv
    · exact hs i v hv
    · cases hv

set_option maxHeartbeats 1000000 in
theorem Rank_any (v : Value) (xs : List Nat) (n i : Int) (w : World) (hx : Rd w v xs.length 1 (u64s xs)) (hv : ∀ x ∈ xs, x < 18446744073709551616) (hl : xs.length ≤ maxLen) :
    Calls Tryz.prog 36 #[v, .int .i64 n, .int .i64 i] w fun e w' => e = .returned (.int .i64 (rankR n i xs)) ∧ ∃ m, w' = w.drewN m := by
  obtain ⟨A, ca, rfl, hlc, hcm, hA⟩ := hx.form
  have H := hid (isBitmap_any _ xs n w hx hv hl)
  obtain ⟨R, hR⟩ : ∃ R, rankR n i xs = R := ⟨_, rfl⟩
  rw [hR]
  have HR := hid hR
  clear hR
  generalize hok : okPack 1 n xs = ok at *
  have HOK := hid hok
  have HV := hid hv
  clear hok hv
  go_enter Tryz.func36, Tryz.ntmps36
  cases ok
  · go_wp2_with (go_at_call 65; refine H.out.mono ?_; rintro e w' ⟨rfl, rfl⟩)
    go_ret
    exact ⟨ret_i64 (by rw [← HR.out, rankR, if_neg (by rw [HOK.out]; simp)]), 0, rfl⟩
  · by_cases h0 : i < 0
    · go_wp2_with (go_at_call 65; refine H.out.mono ?_; rintro e w' ⟨rfl, rfl⟩)
      go_ret
      exact ⟨ret_i64 (by rw [← HR.out, rankR, if_neg (by omega)]), 0, rfl⟩
    · by_cases h1 : n < i
      · go_wp2_with (go_at_call 65; refine H.out.mono ?_; rintro e w' ⟨rfl, rfl⟩)
        go_ret
        exact ⟨ret_i64 (by rw [← HR.out, rankR, if_neg (by omega)]), 0, rfl⟩
      · obtain ⟨k, rfl⟩ := Int.eq_ofNat_of_zero_le (show 0 ≤ i by omega)
        obtain ⟨m, rfl⟩ := Int.eq_ofNat_of_zero_le (show 0 ≤ n by omega)
        have hm : m ≤ 65536 := by
          refine Decidable.byContradiction fun hc => ?_
          have := HOK.out
          rw [okPack_not _ (by omega)] at this; cases this
        have hlen : xs.length = (m + 63) / 64 := ((okPack_nat (wd := 1) (n := m) xs (by decide) hm).1 HOK.out).1.trans (by rw [L.nWords_cases (by decide) (by decide)]; simp only [Nat.div_one]; split <;> omega)
        obtain ⟨q, hq⟩ : ∃ q, k / 64 = q := ⟨_, rfl⟩
        obtain ⟨r, hr⟩ : ∃ r, k % 64 = r := ⟨_, rfl⟩
        have hq' : (k : Int) / 64 = (q : Int) := by omega
        have hr' : (k : Int) % 64 = (r : Int) := by omega
        have hr64 : r < 64 := by omega
        have hqx : q ≤ xs.length := by omega
        have HQ : Hid (R = ((rankN xs (64 * q + r) : Nat) : Int)) := by
          refine hid ?_; rw [← HR.out, rankR, if_pos ⟨HOK.out, by omega, by omega⟩]; congr 2; simp; omega
        have hqs : r ≠ 0 → q < xs.length := by omega
        have HLT := hid hqs
        have HC := hid (countSet_any _ (xs.take q) w (by have := hx.take q hqx; rwa [show (xs.take q).length = q from by simp; omega]) (fun x hx => HV.out x (List.mem_of_mem_take hx)) (by simp; omega))
        have HRW := hid (rankN_words xs q hqx)
        have HPL := hid (popL_le (xs.take q))
        generalize popL (xs.take q) = pc at *
        clear hq hr hlen hqs
        by_cases hr0 : r = 0
        · have HR0 := hid hr0
          have hrz : ((r : Int) == 0) = true := by simpa using hr0
          clear hr0
          go_wp2_with (first | (go_at_call 65; refine H.out.mono ?_; rintro e w' ⟨rfl, rfl⟩) | (go_at_call 66; refine HC.out.mono ?_; rintro e w' ⟨rfl, rfl⟩))
          go_ret
          exact ⟨ret_i64 (by rw [HQ.out, HR0.out, Nat.add_zero, HRW.out]), 0, rfl⟩
        · have hrz : ((r : Int) == 0) = false := by simpa using hr0
          have hqlt := HLT.out hr0
          obtain ⟨b, o, rfl, hs⟩ := hA (by omega)
          have c1 := hs.word q hqlt
          have hxv := HV.out (xs.getD q 0) (by simp [List.getD, List.getElem?_eq_getElem hqlt])
          have HRQ := hid (rankN_word xs q r (by omega))
          have hpn := popN_low (xs.getD q 0) r (by omega)
          have HAND := hid (u64_and_nat (xs.getD q 0) (2 ^ r - 1) hxv (by have := pow_le_64 (show r ≤ 64 by omega); omega))
          have hxa : xs.getD q 0 &&& (2 ^ r - 1) < 18446744073709551616 := Nat.lt_of_le_of_lt Nat.and_le_left hxv
          have HCW := hid (fun w => countWord_any _ w hxa)
          have hple := L.popN_le r (xs.getD q 0)
          rw [hpn] at HCW
          generalize xs.getD q 0 &&& (2 ^ r - 1) = xa at *
          generalize L.popN r (xs.getD q 0) = pw at *
          generalize xs.getD q 0 = x at *
          have HL := hid (fun w => lowBits_any r w (by omega))
          generalize 2 ^ r - 1 = lo at *
          clear hs hA hr0 hxv hpn hxa
          have hpl : pc ≤ 4194304 := by have := HPL.out; rw [List.length_take] at this; omega
          go_wp2_with (first | (go_at_call 65; refine H.out.mono ?_; rintro e w' ⟨rfl, rfl⟩) | (go_at_call 66; refine HC.out.mono ?_; rintro e w' ⟨rfl, rfl⟩))
          go_quiet (first | (go_at_call 68; exact Calls.quiet_of_same (HL.out _)) | (go_at_call 67; try rw [HAND.out]; exact Calls.quiet_of_same (HCW.out _)))
          go_wp2
          go_ret
          refine ⟨ret_i64 ?_, _, rfl⟩
          rw [HQ.out, HRQ.out, HRW.out]
          go_num
end Go.Proofs.YthonbfojpbfmgaaGreatDoor

/- The plain answer's isBitmap and Indexes. -/
set_option linter.unusedVariables false
set_option linter.unusedSimpArgs false
set_option linter.unnecessarySimpa false
set_option maxRecDepth 20000
namespace Go.Proofs.YthonbfojpbfmgaaGreatDoor
open Go.RowKit

theorem okPack1_false_len {m : Nat} {xs : List Nat} (h : xs.length ≠ (m + 63) / 64) : okPack 1 (m : Int) xs = false := by
  by_cases hm : m ≤ 65536
  · cases hc : okPack 1 (m : Int) xs
    · rfl
    · exact absurd (((okPack_nat (wd := 1) (n := m) xs (by decide) hm).1 hc).1.trans (nWords1 m)) h
  · exact okPack_not _ (by omega)
theorem okPack1_false_bit {m k : Nat} {xs : List Nat} (hk : m ≤ k) (h : bitOf xs k = true) : okPack 1 (m : Int) xs = false := by
  by_cases hm : m ≤ 65536
  · cases hc : okPack 1 (m : Int) xs
    · rfl
    · rw [isPack_beyond ((okPack_nat (wd := 1) (n := m) xs (by decide) hm).1 hc) k hk] at h; cases h
  · exact okPack_not _ (by omega)

/-- the places below n at which a bit is set -/
def idxN (ws : List Nat) (n : Nat) : List Nat := (List.range n).filter (bitOf ws)
def ints (l : List Nat) : List Value := l.map fun n : Nat => Value.int .i64 (n : Int)
theorem idxN_snoc (ws : List Nat) (n : Nat) : idxN ws (n + 1) = idxN ws n ++ if bitOf ws n then [n] else [] := by
  unfold idxN
  rw [List.range_succ, List.filter_append]
  cases h : bitOf ws n <;> simp [List.filter_cons, h]
end Go.Proofs.YthonbfojpbfmgaaGreatDoor
