/- The plain answer's Unpack. -/
import Derived.Test.YthonbfojpbfmgaaGreatDoorLawkerneluptoB2
import Derived.Lib.TrailingZeros
import Derived.Test.YthonbfojpbfmgaaGreatDoorLawkerneluptoB1
set_option linter.unusedVariables false
set_option linter.unusedSimpArgs false
set_option linter.unnecessarySimpa false
set_option maxRecDepth 20000
namespace Go.Proofs.YthonbfojpbfmgaaGreatDoor
open Go.RowKit

end Go.Proofs.YthonbfojpbfmgaaGreatDoor

/- Bitmaps as plain mathematics: lanes of width 1. -/
set_option maxRecDepth 512
set_option linter.unusedVariables false
set_option linter.unusedSimpArgs false
set_option linter.unnecessarySimpa false
namespace Go.Proofs.YthonbfojpbfmgaaGreatDoor

/-- the bitmap of a list of flags -/
def bmL (fl : List Bool) : List Nat := L.packL 1 (fl.map Bool.toNat)
/-- ws is the bitmap of n bits of which f tells -/
def IsBm (n : Nat) (ws : List Nat) (f : Nat → Bool) : Prop := ws.length = L.nWords 1 n ∧ (∀ x ∈ ws, x < 18446744073709551616) ∧ ∀ i, i < 64 * ws.length → bitOf ws i = (decide (i < n) && f i)

theorem nWords1 (n : Nat) : L.nWords 1 n = (n + 63) / 64 := by simp [L.nWords]
theorem nWords1_le (n : Nat) : n ≤ 64 * L.nWords 1 n := by rw [nWords1]; omega
theorem bitOf_out (ws : List Nat) (i : Nat) (h : 64 * ws.length ≤ i) : bitOf ws i = false := by
  unfold bitOf
  rw [L.getD_out (i / 64) (by omega)]; simp
theorem bm_ext {a b : List Nat} (hl : a.length = b.length) (ha : ∀ x ∈ a, x < 18446744073709551616) (hb : ∀ x ∈ b, x < 18446744073709551616) (h : ∀ i, i < 64 * a.length → bitOf a i = bitOf b i) : a = b := by
  apply L.ext_getD hl
  intro k hk
  apply Nat.eq_of_testBit_eq
  intro p
  have hx : a.getD k 0 < 2 ^ 64 := by apply ha; simp [List.getD, List.getElem?_eq_getElem hk]
  have hy : b.getD k 0 < 2 ^ 64 := by apply hb; simp [List.getD, List.getElem?_eq_getElem (show k < b.length by omega)]
  by_cases hp : p < 64
  · have := h (64 * k + p) (by omega)
    unfold bitOf at this
    rw [show (64 * k + p) / 64 = k from by omega, show (64 * k + p) % 64 = p from by omega] at this
    exact this
  · rw [Nat.testBit_lt_two_pow (Nat.lt_of_lt_of_le hx (Nat.pow_le_pow_right (by omega) (by omega))), Nat.testBit_lt_two_pow (Nat.lt_of_lt_of_le hy (Nat.pow_le_pow_right (by omega) (by omega)))]
theorem IsBm.unique {n : Nat} {a b : List Nat} {f : Nat → Bool} (ha : IsBm n a f) (hb : IsBm n b f) : a = b :=
  bm_ext (ha.1.trans hb.1.symm) ha.2.1 hb.2.1 fun i hi => by rw [ha.2.2 i hi, hb.2.2 i (by rw [hb.1, ← ha.1]; exact hi)]

theorem laneOf_one (ws : List Nat) (i : Nat) : L.laneOf 1 ws i = (bitOf ws i).toNat := by
  unfold L.laneOf bitOf
  rw [if_neg (by omega), Nat.div_one, Nat.mul_one, Nat.pow_one, Nat.testBit_eq_decide_div_mod_eq]
  have : ws.getD (i / 64) 0 / 2 ^ (i % 64) % 2 = 0 ∨ ws.getD (i / 64) 0 / 2 ^ (i % 64) % 2 = 1 := by omega
  rcases this with h | h <;> rw [h] <;> rfl
theorem toNat_inj {a b : Bool} (h : a.toNat = b.toNat) : a = b := by cases a <;> cases b <;> simp_all
theorem toNat_lt (fl : List Bool) : ∀ x ∈ fl.map Bool.toNat, x < 2 ^ 1 := by
  intro x hx; obtain ⟨b, _, rfl⟩ := List.mem_map.1 hx; cases b <;> decide
theorem isPack_lt {w n : Nat} {ws : List Nat} (h : L.IsPack w n ws) : ∀ x ∈ ws, x < 18446744073709551616 := by
  intro x hx
  obtain ⟨k, hk, rfl⟩ := List.getElem_of_mem hx
  have h1 := h.2 k hk
  have h2 := pow_le_64 (L.inWord_le w n k)
  simp only [List.getD, List.getElem?_eq_getElem hk, Option.getD_some] at h1
  omega
/-- a packing of lanes of width 1 has no bit beyond its lanes -/
theorem isPack_beyond {n : Nat} {ws : List Nat} (h : L.IsPack 1 n ws) (i : Nat) (hi : n ≤ i) : bitOf ws i = false := by
  by_cases hl : i / 64 < ws.length
  · have h1 := h.2 (i / 64) hl
    unfold bitOf
    apply Nat.testBit_lt_two_pow
    refine Nat.lt_of_lt_of_le h1 (Nat.pow_le_pow_right (by omega) ?_)
    unfold L.inWord; omega
  · exact bitOf_out ws i (by omega)
theorem bmL_isBm (fl : List Bool) : IsBm fl.length (bmL fl) (fun i => fl.getD i false) := by
  have hpk := L.pack_isPack (w := 1) (by omega) (fl.map Bool.toNat) (toNat_lt fl)
  rw [List.length_map] at hpk
  refine ⟨hpk.1, isPack_lt hpk, fun i _ => ?_⟩
  by_cases hi : i < fl.length
  · have h1 := L.lanes_pack (w := 1) (by omega) (fl.map Bool.toNat) (toNat_lt fl)
    have h2 := L.lanesL_get 1 (fl.map Bool.toNat).length (bmL fl) i (by simpa using hi)
    have h3 : (L.lanesL 1 (fl.map Bool.toNat).length (bmL fl)) = fl.map Bool.toNat := h1
    rw [h3, laneOf_one] at h2
    have h4 : (fl.map Bool.toNat).getD i 0 = (fl.getD i false).toNat := by simp [List.getD, List.getElem?_eq_getElem hi]
    rw [h4] at h2
    simp only [hi, decide_true, Bool.true_and]
    exact (toNat_inj h2).symm
  · have hz := isPack_beyond hpk i (by omega)
    unfold bmL; rw [hz]; simp [hi]
theorem IsBm.eq_bmL {n : Nat} {a : List Nat} {f : Nat → Bool} (ha : IsBm n a f) : a = bmL ((List.range n).map f) := by
  apply ha.unique
  have h := bmL_isBm ((List.range n).map f)
  rw [List.length_map, List.length_range] at h
  refine ⟨h.1, h.2.1, fun i hi => ?_⟩
  rw [h.2.2 i hi]
  by_cases hin : i < n
  · simp [hin, List.getD, List.getElem?_range hin]
  · simp [hin]
/-- a packing of lanes of width 1 is the bitmap of its bits -/
theorem isPack_isBm {n : Nat} {ws : List Nat} (h : L.IsPack 1 n ws) : IsBm n ws (bitOf ws) := by
  refine ⟨h.1, isPack_lt h, fun i _ => ?_⟩
  by_cases hi : i < n
  · simp [hi]
  · rw [isPack_beyond h i (by omega)]; simp [hi]

/-- one bit set -/
theorem bitOf_set (ws : List Nat) (i : Nat) (hi : i < 64 * ws.length) (j : Nat) : bitOf (ws.set (i / 64) (ws.getD (i / 64) 0 ||| 2 ^ (i % 64))) j = (bitOf ws j || decide (j = i)) := by
  unfold bitOf
  have hl : i / 64 < ws.length := by omega
  by_cases hk : j / 64 = i / 64
  · have e : (ws.set (i / 64) (ws.getD (i / 64) 0 ||| 2 ^ (i % 64))).getD (j / 64) 0 = ws.getD (i / 64) 0 ||| 2 ^ (i % 64) := by
      rw [hk]; simp [List.getD, hl]
    rw [e, Nat.testBit_or, Nat.testBit_two_pow, hk]
    congr 1
    rw [decide_eq_decide]; omega
  · have e : (ws.set (i / 64) (ws.getD (i / 64) 0 ||| 2 ^ (i % 64))).getD (j / 64) 0 = ws.getD (j / 64) 0 := by
      simp only [List.getD]; rw [List.getElem?_set_ne (by omega)]
    have : ¬ j = i := fun h => hk (by rw [h])
    rw [e]; simp [this]
theorem set_lt64 (ws : List Nat) (hw : ∀ x ∈ ws, x < 18446744073709551616) (i : Nat) : ∀ x ∈ ws.set (i / 64) (ws.getD (i / 64) 0 ||| 2 ^ (i % 64)), x < 18446744073709551616 := by
  intro x hx
  rcases List.mem_or_eq_of_mem_set hx with h | h
  · exact hw x h
  · rw [h]
    have h1 : ws.getD (i / 64) 0 < 2 ^ 64 := L.getD_lt (w := 64) (fun a ha => by have := hw a ha; omega) (i / 64)
    have h2 : 2 ^ (i % 64) < 2 ^ 64 := Nat.pow_lt_pow_right (by omega) (by omega)
    have := Nat.or_lt_two_pow h1 h2
    omega

/-- the lowest set bit -/
theorem ctz_form (x : Nat) (h0 : x ≠ 0) (h : x < 18446744073709551616) : ∃ m, x = 2 ^ Lib.ctz 64 x + 2 ^ (Lib.ctz 64 x + 1) * m ∧ Lib.ctz 64 x < 64 := by
  obtain ⟨m, hm, hk⟩ := Lib.ctzFrom_spec 64 x (by omega) (by omega)
  have e : Lib.ctz 64 x = Lib.ctzFrom 64 x := by simp [Lib.ctz, h0]
  rw [e]
  refine ⟨m, ?_, hk⟩
  conv => lhs; rw [hm]
  rw [Nat.mul_add, Nat.mul_one, Nat.pow_succ, Nat.mul_assoc, Nat.add_comm]
theorem clear_lowest (x : Nat) (h0 : x ≠ 0) (h : x < 18446744073709551616) (p : Nat) : (x &&& (x - 1)).testBit p = (x.testBit p && decide (p ≠ Lib.ctz 64 x)) ∧ x.testBit (Lib.ctz 64 x) = true ∧ (x &&& (x - 1)) < x := by
  obtain ⟨m, hm, hk⟩ := ctz_form x h0 h
  generalize Lib.ctz 64 x = t at *
  have hp : 0 < 2 ^ t := Nat.pow_pos (by omega)
  have hlt : 2 ^ t < 2 ^ (t + 1) := Nat.pow_lt_pow_right (by omega) (by omega)
  have hand : x &&& (x - 1) = 2 ^ (t + 1) * m := by
    rw [show x - 1 = (2 ^ t - 1) + 2 ^ (t + 1) * m from by omega]
    conv => lhs; rw [hm]
    rw [L.and_join (t + 1) _ _ m m hlt (by omega), Nat.and_self]
    have : 2 ^ t &&& (2 ^ t - 1) = 0 := by rw [Nat.and_two_pow_sub_one_eq_mod, Nat.mod_self]
    rw [this, Nat.zero_add]
  have hb : ∀ q, x.testBit q = if q < t + 1 then decide (t = q) else m.testBit (q - (t + 1)) := by
    intro q; rw [hm, Nat.add_comm, Nat.testBit_two_pow_mul_add _ hlt, Nat.testBit_two_pow]
  refine ⟨?_, by rw [hb]; simp, by rw [hand]; omega⟩
  rw [hand, hb, show 2 ^ (t + 1) * m = 2 ^ (t + 1) * m + 0 from rfl, Nat.testBit_two_pow_mul_add _ (Nat.pow_pos (by omega))]
  by_cases hq : p < t + 1
  · rw [if_pos hq, if_pos hq]
    by_cases ht : t = p
    · simp [ht]
    · simp [ht]
  · rw [if_neg hq, if_neg hq]
    have : p ≠ t := by omega
    simp [this]
end Go.Proofs.YthonbfojpbfmgaaGreatDoor

/- Package bitvec's counting of set bits. -/
set_option linter.unusedVariables false
set_option linter.unusedSimpArgs false
set_option linter.unnecessarySimpa false
set_option maxRecDepth 20000
namespace Go.Proofs.YthonbfojpbfmgaaGreatDoor
open Go.RowKit

theorem add_u64 (a b : Nat) (h : a + b < 18446744073709551616) : IntKind.u64.wrap ((a : Int) + (b : Int)) = ((a + b : Nat) : Int) := by rw [IntKind.wrap_u64]; omega
set_option maxHeartbeats 1000000 in
theorem onesCount_any (x : Nat) (w : World) (hx : x < 18446744073709551616) : Calls Tryz.prog 117 #[.int .u64 x] w fun e w' => e = .returned (.int .i64 (L.popN 64 x : Nat)) ∧ w' = w := by
  obtain ⟨a, ha⟩ : ∃ a, (x / 2 &&& 6148914691236517205) + (x &&& 6148914691236517205) = a := ⟨_, rfl⟩
  obtain ⟨b, hb⟩ : ∃ b, (a / 4 &&& 3689348814741910323) + (a &&& 3689348814741910323) = b := ⟨_, rfl⟩
  obtain ⟨c, hc⟩ : ∃ c, (b / 16 + b) &&& 1085102592571150095 = c := ⟨_, rfl⟩
  have m0 : ∀ y, y &&& 6148914691236517205 ≤ 6148914691236517205 := fun y => Nat.and_le_right
  have m1 : ∀ y, y &&& 3689348814741910323 ≤ 3689348814741910323 := fun y => Nat.and_le_right
  have hal : a ≤ 12297829382473034410 := by have := m0 (x / 2); have := m0 x; omega
  have hbl : b ≤ 7378697629483820646 := by have := m1 (a / 4); have := m1 a; omega
  have hsw := L.swar_pop x hx
  have hs3 : L.swar3 x = c := by unfold L.swar3; simp only; rw [ha, hb, hc]
  have h1 : IntKind.u64.wrap (bits BinOp.and IntKind.u64 ((x : Int) / 2) 6148914691236517205 + bits BinOp.and IntKind.u64 (x : Int) 6148914691236517205) = (a : Int) := by
    have e1 := u64_and_nat (x / 2) 6148914691236517205 (by omega) (by decide)
    have e2 := u64_and_nat x 6148914691236517205 hx (by decide)
    have e3 : ((x : Int) / 2) = ((x / 2 : Nat) : Int) := by simp
    rw [e3, show (6148914691236517205 : Int) = ((6148914691236517205 : Nat) : Int) from rfl, e1, e2, add_u64 _ _ (by have := m0 (x / 2); have := m0 x; omega), ha]
  have h2 : IntKind.u64.wrap (bits BinOp.and IntKind.u64 ((a : Int) / 4) 3689348814741910323 + bits BinOp.and IntKind.u64 (a : Int) 3689348814741910323) = (b : Int) := by
    have e1 := u64_and_nat (a / 4) 3689348814741910323 (by omega) (by decide)
    have e2 := u64_and_nat a 3689348814741910323 (by omega) (by decide)
    have e3 : ((a : Int) / 4) = ((a / 4 : Nat) : Int) := by simp
    rw [e3, show (3689348814741910323 : Int) = ((3689348814741910323 : Nat) : Int) from rfl, e1, e2, add_u64 _ _ (by have := m1 (a / 4); have := m1 a; omega), hb]
  have h3 : bits BinOp.and IntKind.u64 (IntKind.u64.wrap ((b : Int) / 16 + (b : Int))) 1085102592571150095 = (c : Int) := by
    have e3 : ((b : Int) / 16) = ((b / 16 : Nat) : Int) := by simp
    have hb16 : b / 16 + b < 18446744073709551616 := by omega
    have e1 := u64_and_nat (b / 16 + b) 1085102592571150095 hb16 (by decide)
    rw [e3, add_u64 _ _ hb16, show (1085102592571150095 : Int) = ((1085102592571150095 : Nat) : Int) from rfl, e1, hc]
  rw [hs3] at hsw
  have HSW := hid hsw
  have HS3 := hid hs3
  clear ha hb hc m0 m1 hal hbl hs3 hsw
  obtain ⟨d, hd⟩ : ∃ d, c + c / 256 = d := ⟨_, rfl⟩
  obtain ⟨e, he⟩ : ∃ e, d + d / 65536 = e := ⟨_, rfl⟩
  obtain ⟨f, hf⟩ : ∃ f, e + e / 4294967296 = f := ⟨_, rfl⟩
  have hcl := HSW.out.2
  have h4 : IntKind.u64.wrap ((c : Int) + (c : Int) / 256) = (d : Int) := by
    have e3 : ((c : Int) / 256) = ((c / 256 : Nat) : Int) := by simp
    rw [e3, add_u64 _ _ (by omega), hd]
  have h5 : IntKind.u64.wrap ((d : Int) + (d : Int) / 65536) = (e : Int) := by
    have e3 : ((d : Int) / 65536) = ((d / 65536 : Nat) : Int) := by simp
    rw [e3, add_u64 _ _ (by omega), he]
  have h6 : IntKind.u64.wrap ((e : Int) + (e : Int) / 4294967296) = (f : Int) := by
    have e3 : ((e : Int) / 4294967296) = ((e / 4294967296 : Nat) : Int) := by simp
    rw [e3, add_u64 _ _ (by omega), hf]
  have hfl : f < 9223372036854775808 := by omega
  have HP : Hid (f % 128 = L.popN 64 x) := by
    refine hid ?_
    rw [← HSW.out.1]; unfold L.swar; simp only; rw [HS3.out, hd, he, hf]
  have HFL := hid hfl
  clear hd he hf hcl hfl
  go_enter Tryz.func117, Tryz.ntmps117
  go_wp2
  go_ret
  refine ⟨ret_i64 ?_, rfl⟩
  rw [i64_and127]
  have h7 : wrap64 (f : Int) = (f : Int) := by have := HFL.out; unfold wrap64; omega
  rw [h7, ← HP.out]; simp
theorem countWord_any (x : Nat) (w : World) (hx : x < 18446744073709551616) : Calls Tryz.prog 67 #[.int .u64 x] w fun e w' => e = .returned (.int .i64 (L.popN 64 x : Nat)) ∧ w' = w := by
  go_enter Tryz.func67, Tryz.ntmps67
  go_wp2_with (go_at_call 117; refine (onesCount_any x _ hx).mono ?_; rintro e w' ⟨rfl, rfl⟩)
  go_ret
  exact ⟨rfl, rfl⟩

/-- how many bits of the words are set -/
def popL : List Nat → Nat
  | [] => 0
  | x :: xs => L.popN 64 x + popL xs
theorem popL_append (a b : List Nat) : popL (a ++ b) = popL a + popL b := by
  induction a with
  | nil => simp [popL]
  | cons x a ih => simp only [List.cons_append, popL, ih]; omega
theorem popL_le (a : List Nat) : popL a ≤ 64 * a.length := by
  induction a with
  | nil => simp [popL]
  | cons x a ih => simp only [popL, List.length_cons]; have := L.popN_le 64 x; omega
set_option maxHeartbeats 400000 in
theorem countSet_any (v : Value) (xs : List Nat) (w : World) (hx : Rd w v xs.length 1 (u64s xs)) (hv : ∀ x ∈ xs, x < 18446744073709551616) (hl : xs.length ≤ 65536) :
    Calls Tryz.prog 66 #[v] w fun e w' => e = .returned (.int .i64 (popL xs : Nat)) ∧ w' = w := by
  obtain ⟨A, ca, rfl, hlc, hcm, hA⟩ := hx.form
  clear hx hlc hcm
  go_enter Tryz.func66, Tryz.ntmps66
  go_wp2
  go_loop [3, 8] (fun c i => ∃ j : Nat, j ≤ xs.length ∧ i = .int .i64 j ∧ c = .int .i64 (popL (xs.take j) : Nat)) (fun _ i => xs.length - (intOf i).toNat)
  case atStart => exact ⟨0, by omega, rfl, by simp [popL]⟩
  case round =>
    obtain ⟨j, hj, rfl, rfl⟩ := hrel
    by_cases hlt : j < xs.length
    · obtain ⟨b, o, rfl, hs⟩ := hA (by omega)
      have c1 := hs.word j hlt
      have HX := hid (hv (xs.getD j 0) (by simp [List.getD, List.getElem?_eq_getElem hlt]))
      have HT : Hid (popL (xs.take (j + 1)) = popL (xs.take j) + L.popN 64 (xs.getD j 0)) := by
        refine hid ?_
        rw [List.take_succ_eq_append_getElem hlt, popL_append]
        simp [popL, List.getD, List.getElem?_eq_getElem hlt]
      have hle := popL_le (xs.take j)
      have hll : (xs.take j).length = j := by rw [List.length_take]; omega
      rw [hll] at hle
      have hp := L.popN_le 64 (xs.getD j 0)
      clear hs hA hll
      generalize xs.getD j 0 = x at *
      generalize popL (xs.take j) = a at *
      have HC := hid (countWord_any x w HX.out)
      generalize L.popN 64 x = pc at *
      go_wp2_with (go_at_call 67; refine HC.out.mono ?_; rintro e w' ⟨rfl, rfl⟩)
      go_round
      case rel => exact ⟨j + 1, by omega, by go_num, by rw [HT.out]; go_num⟩
      case measure => simp [intOf]; omega
    · go_wp2
      go_ret
      rw [show j = xs.length from by omega, List.take_length]
      exact ⟨rfl, rfl⟩

/-- how many bits are set below place i -/
def rankN (ws : List Nat) (i : Nat) : Nat := ((List.range i).filter (bitOf ws)).length
theorem rankN_succ (ws : List Nat) (i : Nat) : rankN ws (i + 1) = rankN ws i + if bitOf ws i then 1 else 0 := by
  unfold rankN
  rw [List.range_succ, List.filter_append, List.length_append]
  congr 1
  cases h : bitOf ws i <;> simp [List.filter_cons, h]
theorem rankN_word (ws : List Nat) (q r : Nat) (hr : r ≤ 64) : rankN ws (64 * q + r) = rankN ws (64 * q) + L.popN r (ws.getD q 0) := by
  induction r with
  | zero => simp [L.popN]
  | succ r ih =>
    rw [← Nat.add_assoc, rankN_succ, ih (by omega), L.popN_snoc]
    have e : bitOf ws (64 * q + r) = (ws.getD q 0).testBit r := by
      unfold bitOf; rw [show (64 * q + r) / 64 = q from by omega, show (64 * q + r) % 64 = r from by omega]
    rw [e]; omega
theorem rankN_words (ws : List Nat) (q : Nat) (hq : q ≤ ws.length) : rankN ws (64 * q) = popL (ws.take q) := by
  induction q with
  | zero => simp [rankN, popL]
  | succ q ih =>
    rw [show 64 * (q + 1) = 64 * q + 64 from by omega, rankN_word ws q 64 (by omega), ih (by omega), List.take_succ_eq_append_getElem (by omega), popL_append]
    simp [popL, List.getD, List.getElem?_eq_getElem (show q < ws.length by omega)]
theorem popN_low (x r : Nat) (hr : r ≤ 64) : L.popN 64 (x &&& (2 ^ r - 1)) = L.popN r x := by
  rw [Nat.and_two_pow_sub_one_eq_mod]
  have h := L.popN_add r (64 - r) (x % 2 ^ r)
  rw [show r + (64 - r) = 64 from by omega, L.popN_mod, Nat.div_eq_of_lt (Nat.mod_lt _ (Nat.pow_pos (by omega)))] at h
  have hz : ∀ k, L.popN k 0 = 0 := by intro k; induction k with | zero => rfl | succ k ih => simp [L.popN, ih]
  rw [h, hz, Nat.add_zero]

theorem isBitmap_any (v : Value) (xs : List Nat) (n : Int) (w : World) (hx : Rd w v xs.length 1 (u64s xs)) (hv : ∀ x ∈ xs, x < 18446744073709551616) (hl : xs.length ≤ maxLen) :
    Calls Tryz.prog 65 #[v, .int .i64 n] w fun e w' => e = .returned (.bool (okPack 1 n xs)) ∧ w' = w := by
  have H := hid (isPacking_any v xs 1 n w hx hv hl)
  clear hx hl
  go_enter Tryz.func65, Tryz.ntmps65
  go_wp2_with (go_at_call 88; refine H.out.mono ?_; rintro e w' ⟨rfl, rfl⟩)
  go_ret
  exact ⟨rfl, rfl⟩

/-- what Rank answers -/
def rankR (n i : Int) (xs : List Nat) : Int := if okPack 1 n xs = true ∧ 0 ≤ i ∧ i ≤ n then (rankN xs i.toNat : Int) else -1

theorem Rd.take {w : World} {A : Option Addr} {n cap : Nat} {xs : List Nat} (h : Rd w (.slice A n cap) n 1 (u64s xs)) (q : Nat) (hq : q ≤ n) : Rd w (.slice A q cap) q 1 (u64s (xs.take q)) := by
  have hl : xs.length = n := by have := h.1; simpa [u64s] using this
  have e : u64s (xs.take q) = (u64s xs).take q := by simp [u64s, List.map_take]
  rcases h.2 with ⟨⟨A', hA'⟩, rfl⟩ | ⟨b, o, cap', hA', h1, h2, hs⟩
  · have : q = 0 := by omega
    subst this
    simp only [Value.slice.injEq] at hA'
    obtain ⟨rfl, -, rfl⟩ := hA'
    exact ⟨by simp [u64s], .inl ⟨⟨_, rfl⟩, rfl⟩⟩
  · simp only [Value.slice.injEq] at hA'
    obtain ⟨rfl, -, rfl⟩ := hA'
    refine ⟨by rw [e]; simp [u64s]; omega, .inr ⟨b, o, _, rfl, by omega, h2, ?_⟩⟩
    intro i v hv
    rw [e, List.getElem?_take] at hv
    split at hv
    · exact hs i v hv
    · cases hv

set_option maxHeartbeats 1000000 in
theorem Rank_any (v : Value) (xs : List Nat) (n i : Int) (w : World) (hx : Rd w v xs.length 1 (u64s xs)) (hv : ∀ x ∈ xs, x < 18446744073709551616) (hl : xs.length ≤ maxLen) :
    Calls Tryz.prog 36 #[v, .int .i64 n, .int .i64 i] w fun e w' => e = .returned (.int .i64 (rankR n i xs)) ∧ ∃ m, w' = w.drewN m := by
  obtain ⟨A, ca, rfl, hlc, hcm, hA⟩ := hx.form
  have H := hid (isBitmap_any _ xs n w hx hv hl)
  obtain ⟨R, hR⟩ : ∃ R, rankR n i xs = R := ⟨_, rfl⟩
  rw [hR]
  have HR := hid hR
  clear hR
  generalize hok : okPack 1 n xs = ok at *
  have HOK := hid hok
  have HV := hid hv
  clear hok hv
  go_enter Tryz.func36, Tryz.ntmps36
  cases ok
  · go_wp2_with (go_at_call 65; refine H.out.mono ?_; rintro e w' ⟨rfl, rfl⟩)
    go_ret
    exact ⟨ret_i64 (by rw [← HR.out, rankR, if_neg (by rw [HOK.out]; simp)]), 0, rfl⟩
  · by_cases h0 : i < 0
    · go_wp2_with (go_at_call 65; refine H.out.mono ?_; rintro e w' ⟨rfl, rfl⟩)
      go_ret
      exact ⟨ret_i64 (by rw [← HR.out, rankR, if_neg (by omega)]), 0, rfl⟩
    · by_cases h1 : n < i
      · go_wp2_with (go_at_call 65; refine H.out.mono ?_; rintro e w' ⟨rfl, rfl⟩)
        go_ret
        exact ⟨ret_i64 (by rw [← HR.out, rankR, if_neg (by omega)]), 0, rfl⟩
      · obtain ⟨k, rfl⟩ := Int.eq_ofNat_of_zero_le (show 0 ≤ i by omega)
        obtain ⟨m, rfl⟩ := Int.eq_ofNat_of_zero_le (show 0 ≤ n by omega)
        have hm : m ≤ 65536 := by
          refine Decidable.byContradiction fun hc => ?_
          have := HOK.out
          rw [okPack_not _ (by omega)] at this; cases this
        have hlen : xs.length = (m + 63) / 64 := ((okPack_nat (wd := 1) (n := m) xs (by decide) hm).1 HOK.out).1.trans (by rw [L.nWords_cases (by decide) (by decide)]; simp only [Nat.div_one]; split <;> omega)
        obtain ⟨q, hq⟩ : ∃ q, k / 64 = q := ⟨_, rfl⟩
        obtain ⟨r, hr⟩ : ∃ r, k % 64 = r := ⟨_, rfl⟩
        have hq' : (k : Int) / 64 = (q : Int) := by omega
        have hr' : (k : Int) % 64 = (r : Int) := by omega
        have hr64 : r < 64 := by omega
        have hqx : q ≤ xs.length := by omega
        have HQ : Hid (R = ((rankN xs (64 * q + r) : Nat) : Int)) := by
          refine hid ?_; rw [← HR.out, rankR, if_pos ⟨HOK.out, by omega, by omega⟩]; congr 2; simp; omega
        have hqs : r ≠ 0 → q < xs.length := by omega
        have HLT := hid hqs
        have HC := hid (countSet_any _ (xs.take q) w (by have := hx.take q hqx; rwa [show (xs.take q).length = q from by simp; omega]) (fun x hx => HV.out x (List.mem_of_mem_take hx)) (by simp; omega))
        have HRW := hid (rankN_words xs q hqx)
        have HPL := hid (popL_le (xs.take q))
        generalize popL (xs.take q) = pc at *
        clear hq hr hlen hqs
        by_cases hr0 : r = 0
        · have HR0 := hid hr0
          have hrz : ((r : Int) == 0) = true := by simpa using hr0
          clear hr0
          go_wp2_with (first | (go_at_call 65; refine H.out.mono ?_; rintro e w' ⟨rfl, rfl⟩) | (go_at_call 66; refine HC.out.mono ?_; rintro e w' ⟨rfl, rfl⟩))
          go_ret
          exact ⟨ret_i64 (by rw [HQ.out, HR0.out, Nat.add_zero, HRW.out]), 0, rfl⟩
        · have hrz : ((r : Int) == 0) = false := by simpa using hr0
          have hqlt := HLT.out hr0
          obtain ⟨b, o, rfl, hs⟩ := hA (by omega)
          have c1 := hs.word q hqlt
          have hxv := HV.out (xs.getD q 0) (by simp [List.getD, List.getElem?_eq_getElem hqlt])
          have HRQ := hid (rankN_word xs q r (by omega))
          have hpn := popN_low (xs.getD q 0) r (by omega)
          have HAND := hid (u64_and_nat (xs.getD q 0) (2 ^ r - 1) hxv (by have := pow_le_64 (show r ≤ 64 by omega); omega))
          have hxa : xs.getD q 0 &&& (2 ^ r - 1) < 18446744073709551616 := Nat.lt_of_le_of_lt Nat.and_le_left hxv
          have HCW := hid (fun w => countWord_any _ w hxa)
          have hple := L.popN_le r (xs.getD q 0)
          rw [hpn] at HCW
          generalize xs.getD q 0 &&& (2 ^ r - 1) = xa at *
          generalize L.popN r (xs.getD q 0) = pw at *
          generalize xs.getD q 0 = x at *
          have HL := hid (fun w => lowBits_any r w (by omega))
          generalize 2 ^ r - 1 = lo at *
          clear hs hA hr0 hxv hpn hxa
          have hpl : pc ≤ 4194304 := by have := HPL.out; rw [List.length_take] at this; omega
          go_wp2_with (first | (go_at_call 65; refine H.out.mono ?_; rintro e w' ⟨rfl, rfl⟩) | (go_at_call 66; refine HC.out.mono ?_; rintro e w' ⟨rfl, rfl⟩))
          go_quiet (first | (go_at_call 68; exact Calls.quiet_of_same (HL.out _)) | (go_at_call 67; try rw [HAND.out]; exact Calls.quiet_of_same (HCW.out _)))
          go_wp2
          go_ret
          refine ⟨ret_i64 ?_, _, rfl⟩
          rw [HQ.out, HRQ.out, HRW.out]
          go_num
end Go.Proofs.YthonbfojpbfmgaaGreatDoor

/- Package chunk: counts of the bits before each word; a packing's lane; the first end of a run behind a place; the ends of texts. -/
set_option linter.unusedVariables false
set_option linter.unusedSimpArgs false
set_option linter.unnecessarySimpa false
set_option maxRecDepth 20000
namespace Go.Proofs.YthonbfojpbfmgaaGreatDoor
open Go.RowKit

theorem popL_snoc (ws : List Nat) (x : Nat) : popL (ws ++ [x]) = popL ws + L.popN 64 x := by rw [popL_append]; simp [popL]
/-- for each word the bits set in the words before it -/
def befL (ws : List Nat) : List Int := (List.range ws.length).map fun k => (popL (ws.take k) : Int)
set_option maxHeartbeats 2000000 in
theorem countBefore_any (v : Value) (xs : List Nat) (w : World) (hx : Rd w v xs.length 1 (u64s xs)) (hv : ∀ x ∈ xs, x < 18446744073709551616) (hl : xs.length ≤ 65536) :
    Calls Tryz.prog 81 #[v] w fun e w' => e = .returned (.slice (some ⟨w.heap.size, 0, none⟩) xs.length xs.length) ∧ Row w' w.heap.size 3 (i64s (befL xs)) ∧ Below w.heap.size w w' := by
  obtain ⟨A, ca, rfl, hlc, hcm, hA⟩ := hx.form
  have HX := hid hx
  clear hx hA
  obtain ⟨p, hp⟩ : ∃ p, w.heap.size = p := ⟨_, rfl⟩
  have HP := hid hp
  rw [hp]
  clear hp
  go_enter Tryz.func81, Tryz.ntmps81
  go_wp2
  refine upon_make 3 (.int .i64 0) 8 Tryz.underlying92 Tryz.infoI64 rfl xs.length (by omega) (by omega) (by omega) (by unfold maxLen; omega) ?_
  intro w1 hrow hb1 hsz1
  rw [HP.out] at hrow hb1 hsz1 ⊢
  have HROW := hid hrow
  have HB1 := hid hb1
  have HX1 := hid (HX.out.mono (by rw [HP.out]; exact hb1))
  have hp1 : p < w1.heap.size := by omega
  clear hrow hb1
  go_wp2
  go_loopw [4, 12] (fun u i wr => ∃ j : Nat, j ≤ xs.length ∧ i = .int .i64 j ∧ u = .int .i64 (popL (xs.take j) : Nat) ∧ Row wr p 3 (i64s ((List.range j).map fun k => (popL (xs.take k) : Int)) ++ List.replicate (xs.length - j) (.int .i64 0)) ∧ Below p w1 wr) (fun _ i _ => xs.length - (intOf i).toNat)
  case atStart => exact ⟨0, by omega, rfl, by simp [popL], by simpa [i64s] using HROW.out, Below.refl _ _⟩
  case round =>
    obtain ⟨j, hj, rfl, rfl, hr, hb⟩ := hrel
    by_cases hlt : j < xs.length
    · have hcell : wr.cell? ⟨p, j, none⟩ = some (.int .i64 0) := by
        rw [hr.cell]; exact get_fill _ _ _ _ (by simp [i64s]) (by omega)
      have hfr := hr.frozen j
      have hx2 : Rd wr (.slice A xs.length ca) xs.length 1 (u64s xs) := HX.out.mono (by rw [HP.out]; exact HB1.out.trans hb)
      obtain ⟨A', ca', he, _, _, hA⟩ := hx2.form
      cases he
      obtain ⟨b, o, rfl, hs⟩ := hA (by omega)
      have c1 := hs.word j hlt
      have hvj : xs.getD j 0 < 18446744073709551616 := hv _ (by simp [List.getD, List.getElem?_eq_getElem hlt])
      have hsn : popL (xs.take (j + 1)) = popL (xs.take j) + L.popN 64 (xs.getD j 0) := by
        rw [List.take_succ_eq_append_getElem hlt, popL_snoc]
        simp [List.getD, List.getElem?_eq_getElem hlt]
      have hpl := popL_le (xs.take j)
      have hpl2 := L.popN_le 64 (xs.getD j 0)
      rw [List.length_take, Nat.min_eq_left hj] at hpl
      have HRW := hid hr
      have HSN := hid hsn
      clear hr hs hA hx2 hsn
      generalize ha : popL (xs.take j) = a at *
      have HA' := hid ha
      clear ha
      generalize hq : xs.getD j 0 = q at *
      clear hq
      go_wp2_with (go_at_call 117; refine (onesCount_any q _ hvj).mono ?_; rintro e w3 ⟨rfl, hw⟩; subst hw)
      go_roundw
      case rel =>
        refine ⟨j + 1, by omega, by go_num, ?_, ?_, below_set hb _ _ _ (Nat.le_refl _)⟩
        · rw [HSN.out]; go_num
        · have hss := HRW.out.set j (.int .i64 (a : Nat))
          rw [set_fill _ _ _ _ _ (by simp [i64s]) (by omega)] at hss
          rw [List.range_succ, List.map_append, i64s_append, List.map_singleton, HA'.out, ← Nat.sub_sub xs.length j 1]
          exact hss
      case measure => simp [intOf]; omega
    · obtain rfl : j = xs.length := by omega
      go_wp2
      go_ret
      refine ⟨rfl, ?_, HB1.out.trans hb⟩
      have := hr
      rw [Nat.sub_self, List.replicate_zero, List.append_nil] at this
      exact this
end Go.Proofs.YthonbfojpbfmgaaGreatDoor

/- slices.BinarySearch over ints. -/
set_option linter.unusedVariables false
set_option linter.unusedSimpArgs false
set_option linter.unnecessarySimpa false
set_option maxRecDepth 20000
namespace Go.Proofs.YthonbfojpbfmgaaGreatDoor
open Go.RowKit

/-- the first place whose entry is t or more -/
def firstGe (es : List Int) (t : Int) : Nat := es.findIdx fun e => decide (t ≤ e)
theorem firstGe_eq (es : List Int) (t : Int) (i : Nat) (hi : i ≤ es.length) (h1 : ∀ a, a < i → es.getD a 0 < t) (h2 : i < es.length → t ≤ es.getD i 0) : firstGe es t = i := by
  unfold firstGe
  by_cases hlt : i < es.length
  · rw [List.findIdx_eq hlt]
    refine ⟨?_, fun j hj => ?_⟩
    · have := h2 hlt
      simpa [List.getD, List.getElem?_eq_getElem hlt] using this
    · have := h1 j hj
      have hjl : j < es.length := by omega
      simp only [List.getD, List.getElem?_eq_getElem hjl, Option.getD_some] at this
      simpa using this
  · have : i = es.length := by omega
    rw [this, List.findIdx_eq_length]
    intro x hx
    obtain ⟨j, hj, rfl⟩ := List.getElem_of_mem hx
    have := h1 j (by omega)
    simp only [List.getD, List.getElem?_eq_getElem hj, Option.getD_some] at this
    simpa using this
theorem firstGe_le (es : List Int) (t : Int) : firstGe es t ≤ es.length := List.findIdx_le_length

end Go.Proofs.YthonbfojpbfmgaaGreatDoor

/- Package chunk: lists of values off the reader. -/
set_option linter.unusedVariables false
set_option linter.unusedSimpArgs false
set_option linter.unnecessarySimpa false
set_option maxRecDepth 20000
namespace Go.Proofs.YthonbfojpbfmgaaGreatDoor
open Go.RowKit

/-- the last of the ends of texts, if they are in order -/
def textEnd (last : Int) : List Int → Option Int
  | [] => some last
  | e :: r => if e < last ∨ e - last > 1024 then none else textEnd e r
theorem textEnd_snoc (es : List Int) : ∀ (l e : Int), textEnd l (es ++ [e]) = (textEnd l es).bind fun x => if e < x ∨ e - x > 1024 then none else some e := by
  induction es with
  | nil => intro l e; simp [textEnd]
  | cons a r ih => intro l e; simp only [List.cons_append, textEnd]; split
                   · rfl
                   · exact ih a e
theorem textEnd_none (es fs : List Int) : ∀ l, textEnd l es = none → textEnd l (es ++ fs) = none := by
  induction es with
  | nil => intro l h; simp [textEnd] at h
  | cons a r ih => intro l h; simp only [List.cons_append, textEnd] at h ⊢; split
                   · rfl
                   · rename_i hc; rw [if_neg hc] at h; exact ih a h
def tsz (es : List Int) : Int := (textEnd 0 es).getD 0

set_option maxHeartbeats 1000000 in
theorem textSize_any (v : Value) (es : List Int) (w : World) (hx : Rd w v es.length 1 (i64s es)) (hl : es.length ≤ 16777216) (hs : ∀ e ∈ es, 0 ≤ e ∧ e < 4294967296) :
    Calls Tryz.prog 269 #[v] w fun e w' => e = .returned (.tuple #[.int .i64 (tsz es), .bool (textEnd 0 es).isSome]) ∧ w' = w := by
  obtain ⟨A, ca, rfl, hlc, hcm, hA⟩ := hx.form
  clear hx
  go_enter Tryz.func269, Tryz.ntmps269
  go_wp2
  go_loop [4, 9] (fun u i => ∃ (j : Nat) (l : Int), j ≤ es.length ∧ i = .int .i64 j ∧ u = .int .i64 l ∧ textEnd 0 (es.take j) = some l ∧ 0 ≤ l ∧ l < 4294967296) (fun _ i => es.length - (intOf i).toNat)
  case atStart => exact ⟨0, 0, by omega, rfl, rfl, rfl, by omega, by omega⟩
  case round =>
    obtain ⟨j, l, hj, rfl, rfl, hu, hl0, hl1⟩ := hrel
    have HU := hid hu
    clear hu
    by_cases hlt : j < es.length
    · obtain ⟨b, o, rfl, hseg⟩ := hA (by omega)
      have c1 := hseg.int j hlt
      have hb := hs (es.getD j 0) (by simp [List.getD, List.getElem?_eq_getElem hlt])
      have hsn : textEnd 0 (es.take (j + 1)) = if es.getD j 0 < l ∨ es.getD j 0 - l > 1024 then none else some (es.getD j 0) := by
        rw [List.take_succ_eq_append_getElem hlt, textEnd_snoc, HU.out]
        simp [List.getD, List.getElem?_eq_getElem hlt]
      have HB : Hid (textEnd 0 (es.take (j + 1)) = none → textEnd 0 es = none) := by
        intro h
        have := textEnd_none (es.take (j + 1)) (es.drop (j + 1)) 0 h
        rwa [List.take_append_drop] at this
      have HSN := hid hsn
      clear hsn hseg hA hs
      generalize es.getD j 0 = p at *
      go_wp2
      all_goals first
        | (go_ret2
           have h := HB.out (by rw [HSN.out, if_pos (by omega)])
           exact ⟨by rw [tsz, h]; rfl, rfl⟩)
        | (go_round
           case rel => exact ⟨j + 1, p, by omega, by go_num, rfl, by rw [HSN.out, if_neg (by omega)], by omega, by omega⟩
           case measure => simp [intOf]; omega)
    · go_wp2
      go_ret2
      have hu := HU.out
      rw [show j = es.length from by omega, List.take_length] at hu
      exact ⟨by rw [tsz, hu]; rfl, rfl⟩

theorem owns_chg {w w' : World} {B a b : Nat} {e : TypeId} {v : Value} {n : Nat} {cs : List Value} (h : w.ownsRow B e 1 v n cs) (hc : Chg a b w w') (ha : a < B) (hb : b < B) : w'.ownsRow B e 1 v n cs := by
  refine ⟨h.1, ?_⟩
  rcases h.2 with hn | ⟨g, cap, cur, rfl, hb', hg, r⟩
  · exact .inl hn
  · exact .inr ⟨g, cap, cur, rfl, hb', by rw [hc.block g (Array.getElem?_eq_some_iff.1 hg).1 (by omega) (by omega)]; exact hg, r⟩
/-- a word as an int64 -/
def sgn64 (x : Nat) : Int := wrap64 (x : Int)
theorem Tryz.info64 : (Tryz.prog.info? 2).map (fun i => (i.zero, i.size, i.bytes)) = some (some (.int .i64 0), 1, 8) := by kernel_rfl

/-- what reading a list of so many integers gives: values, is it a list, bytes left, is the reader short -/
def rdI (c : Nat) (xs : List Nat) (s : Bool) : List Int × Bool × List Nat × Bool := ((numL 8 (tk (8 * c) xs)).map sgn64, !tkS (8 * c) xs s, tkL (8 * c) xs, tkS (8 * c) xs s)

set_option maxHeartbeats 2000000 in
theorem readListI_any (w0 w : World) (g : Nat) (xs : List Nat) (s : Bool) (c : Nat) (h : RdrAt w0 w g xs s) (hgs : g < w.heap.size) (hv : ∀ x ∈ xs, x < 256) (hl : xs.length ≤ 16777216) (hc : c ≤ 4294967296) :
    Calls Tryz.prog 274 #[.agg #[], .pointer (some ⟨g, 0, none⟩), .int .i64 c] w fun e w' => ∃ v, e = .returned (.tuple #[v, .bool (rdI c xs s).2.1]) ∧
      w'.ownsRow w.heap.size 2 1 v (rdI c xs s).1.length (i64s (rdI c xs s).1) ∧ RdrAt w0 w' g (rdI c xs s).2.2.1 (rdI c xs s).2.2.2 ∧ Chg g g w w' := by
  obtain ⟨ys, hys⟩ : ∃ ys, numL 8 (tk (8 * c) xs) = ys := ⟨_, rfl⟩
  have hyv : ∀ x ∈ ys, x < 18446744073709551616 := by rw [← hys]; exact numL_lt (tk_lt hv) (by omega)
  have hyl : ys.length ≤ 16777216 := by
    rw [← hys, numL_length]; unfold tk; split
    · rw [List.length_take]; omega
    · simp
  have HY := hid hys
  obtain ⟨s1, hs1⟩ : ∃ s1, tkS (8 * c) xs s = s1 := ⟨_, rfl⟩
  have HS1 := hid hs1
  obtain ⟨B, hB⟩ : ∃ B, w.heap.size = B := ⟨_, rfl⟩
  have HB := hid hB
  have e0 : rdI c xs s = (ys.map sgn64, !s1, tkL (8 * c) xs, s1) := by rw [← hys, ← hs1]; rfl
  rw [e0, hB]
  have HC := hid (fun (w2 : World) (h2 : RdrAt w0 w2 g xs s) (hg2 : g < w2.heap.size) => U64s_any w0 w2 g xs s c h2 hg2 hv hl hc)
  have H := hid h
  clear hys hs1 hB e0 h hv
  go_enter Tryz.func274, Tryz.ntmps274
  go_wp2_with fail
  have hba : Below w.heap.size w (w.alloc (.cells #[] 68)) := (brefl w).alloc (Nat.le_refl _) _
  refine (HC.out _ (H.out.mono hba) (Nat.lt_of_lt_of_le hgs hba.size)).mono ?_
  rintro e w1 ⟨p, hp, rfl, hrow, hat, hch⟩
  rw [HY.out] at hrow ⊢
  rw [HS1.out] at hat
  have HAT := hid hat
  have HCH : Hid (Chg g g w w1) := hid ((Chg.of_below hba).trans hch)
  have HROW := hid hrow
  have hpw : w.heap.size ≤ p := Nat.le_trans hba.size hp
  have hpg : p ≠ g := by omega
  clear hrow hat hch hba hp HC H
  go_wp2
  refine upon_make 2 (.int .i64 0) 8 Tryz.underlying51 Tryz.info64 rfl ys.length (by omega) (by omega) (by omega) (by unfold maxLen; omega) ?_
  intro w2 hrow2 hb2 hsz2
  have hg1 : g < w1.heap.size := Nat.lt_of_lt_of_le hgs HCH.out.size
  have hp1 : p < w1.heap.size := HROW.out.lt
  have hwB : w.heap.size ≤ w1.heap.size := HCH.out.size
  obtain ⟨q, hq⟩ : ∃ q, w1.heap.size = q := ⟨_, rfl⟩
  rw [hq] at hrow2 hb2 hsz2 hg1 hp1 hwB ⊢
  have HROW2 := hid hrow2
  have HB2 := hid hb2
  clear hrow2 hb2 hq
  go_wp2
  go_loopw [20] (fun i wr => ∃ j : Nat, j ≤ ys.length ∧ i = .int .i64 j ∧ Row wr q 2 (i64s ((ys.take j).map sgn64) ++ List.replicate (ys.length - j) (.int .i64 0)) ∧ Below q w1 wr ∧ Hid (q < wr.heap.size)) (fun i _ => ys.length - (intOf i).toNat)
  case atStart => exact ⟨0, by omega, rfl, by simpa [i64s] using HROW2.out, HB2.out, hid (by omega)⟩
  case round =>
    obtain ⟨j, hj, rfl, hr, hb, hz⟩ := hrel
    by_cases hlt : j < ys.length
    · have hcell : wr.cell? ⟨q, j, none⟩ = some (.int .i64 0) := by
        rw [hr.cell]; exact get_fill _ _ _ _ (by simp [i64s, List.length_take]; omega) (by omega)
      have hfr := hr.frozen j
      have hrp : Row wr p 40 (u64s ys) := HROW.out.below hb hp1
      have c1 : wr.cell? ⟨p, j, none⟩ = some (.int .u64 ((ys.getD j 0 : Nat) : Int)) := by rw [hrp.cell]; exact u64s_get ys j hlt
      have hyj := hyv (ys.getD j 0) (by simp [List.getD, List.getElem?_eq_getElem hlt])
      have HSN : Hid ((ys.take (j + 1)).map sgn64 = (ys.take j).map sgn64 ++ [sgn64 (ys.getD j 0)]) := by
        refine hid ?_
        rw [List.take_succ_eq_append_getElem hlt, List.map_append]
        simp [List.getD, List.getElem?_eq_getElem hlt]
      have HR := hid hr
      clear hr hrp
      generalize ys.getD j 0 = x at *
      go_wp2
      go_roundw
      case rel =>
        refine ⟨j + 1, by omega, by go_num, ?_, below_set hb _ _ _ (Nat.le_refl _), ?_⟩
        · have hss := HR.out.set j (.int .i64 (sgn64 x))
          rw [set_fill _ _ _ _ _ (by simp [i64s, List.length_take]; omega) (by omega)] at hss
          rw [HSN.out, i64s_append, ← Nat.sub_sub ys.length j 1]
          exact hss
        · refine hid ?_; have := hz.out; simpa [World.setCell] using this
      case measure => simp [intOf]; omega
    · obtain rfl : j = ys.length := by omega
      have hat2 : RdrAt w0 wr g (tkL (8 * c) xs) s1 := by
        obtain ⟨h1, h2, v, hr1, hr2⟩ := HAT.out
        exact ⟨h1, h2.trans (hb.mono (by omega)), v, hr1.below hb hg1, hr2⟩
      have HAT2 := hid hat2
      have HRR := hid hr
      clear hat2 hr
      go_wp2_with (go_at_call 83; refine (Short_any w0 _ g _ s1 HAT2.out).mono ?_; rintro e w3 ⟨rfl, hw⟩; subst hw)
      go_ret2
      have h1 := HRR.out
      rw [Nat.sub_self, List.replicate_zero, List.append_nil, List.take_length] at h1
      refine ⟨_, rfl, ?_, HAT2.out, HCH.out.then_below hb hwB⟩
      have h2 := h1.owns (B := B) (n := ys.length) (by have := HB.out; omega) (by simp [i64s]) (by unfold maxLen; omega)
      simpa using h2
end Go.Proofs.YthonbfojpbfmgaaGreatDoor
