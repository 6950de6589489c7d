/- Bitmaps as plain mathematics: lanes of width 1. -/
import Derived.Test.YtdlkdiaobbakiaaGreatDoorLess
import Derived.Test.YtdlkdiaobbakiaaGreatDoorPop
import Derived.Test.YtdlkdiaobbakiaaGreatDoorRefc
import Derived.Lib.TrailingZeros
set_option linter.unusedVariables false
set_option linter.unusedSimpArgs false
set_option linter.unnecessarySimpa false
namespace Go.Proofs.YtdlkdiaobbakiaaGreatDoor

/-- the bitmap of a list of flags -/
def bmL (fl : List Bool) : List Nat := L.packL 1 (fl.map Bool.toNat)
/-- ws is the bitmap of n bits of which f tells -/
def IsBm (n : Nat) (ws : List Nat) (f : Nat → Bool) : Prop := ws.length = L.nWords 1 n ∧ (∀ x ∈ ws, x < 18446744073709551616) ∧ ∀ i, i < 64 * ws.length → bitOf ws i = (decide (i < n) && f i)

theorem nWords1 (n : Nat) : L.nWords 1 n = (n + 63) / 64 := by simp [L.nWords]
theorem nWords1_le (n : Nat) : n ≤ 64 * L.nWords 1 n := by rw [nWords1]; omega
theorem bitOf_out (ws : List Nat) (i : Nat) (h : 64 * ws.length ≤ i) : bitOf ws i = false := by
  unfold bitOf
  rw [L.getD_out (i / 64) (by omega)]; simp
theorem bm_ext {a b : List Nat} (hl : a.length = b.length) (ha : ∀ x ∈ a, x < 18446744073709551616) (hb : ∀ x ∈ b, x < 18446744073709551616) (h : ∀ i, i < 64 * a.length → bitOf a i = bitOf b i) : a = b := by
  apply L.ext_getD hl
  intro k hk
  apply Nat.eq_of_testBit_eq
  intro p
  have hx : a.getD k 0 < 2 ^ 64 := by apply ha; simp [List.getD, List.getElem?_eq_getElem hk]
  have hy : b.getD k 0 < 2 ^ 64 := by apply hb; simp [List.getD, List.getElem?_eq_getElem (show k < b.length by omega)]
  by_cases hp : p < 64
  · have := h (64 * k + p) (by omega)
    unfold bitOf at this
    rw [show (64 * k + p) / 64 = k from by omega, show (64 * k + p) % 64 = p from by omega] at this
    exact this
  · rw [Nat.testBit_lt_two_pow (Nat.lt_of_lt_of_le hx (Nat.pow_le_pow_right (by omega) (by omega))), Nat.testBit_lt_two_pow (Nat.lt_of_lt_of_le hy (Nat.pow_le_pow_right (by omega) (by omega)))]
theorem IsBm.unique {n : Nat} {a b : List Nat} {f : Nat → Bool} (ha : IsBm n a f) (hb : IsBm n b f) : a = b :=
  bm_ext (ha.1.trans hb.1.symm) ha.2.1 hb.2.1 fun i hi => by rw [ha.2.2 i hi, hb.2.2 i (by rw [hb.1, ← ha.1]; exact hi)]

theorem laneOf_one (ws : List Nat) (i : Nat) : L.laneOf 1 ws i = (bitOf ws i).toNat := by
  unfold L.laneOf bitOf
  rw [if_neg (by omega), Nat.div_one, Nat.mul_one, Nat.pow_one, Nat.testBit_eq_decide_div_mod_eq]
  have : ws.getD (i / 64) 0 / 2 ^ (i % 64) % 2 = 0 ∨ ws.getD (i / 64) 0 / 2 ^ (i % 64) % 2 = 1 := by omega
  rcases this with h | h <;> rw [h] <;> rfl
theorem toNat_inj {a b : Bool} (h : a.toNat = b.toNat) : a = b := by cases a <;> cases b <;> simp_all
theorem toNat_lt (fl : List Bool) : ∀ x ∈ fl.map Bool.toNat, x < 2 ^ 1 := by
  intro x hx; obtain ⟨b, _, rfl⟩ := List.mem_map.1 hx; cases b <;> decide
theorem isPack_lt {w n : Nat} {ws : List Nat} (h : L.IsPack w n ws) : ∀ x ∈ ws, x < 18446744073709551616 := by
  intro x hx
  obtain ⟨k, hk, rfl⟩ := List.getElem_of_mem hx
  have h1 := h.2 k hk
  have h2 := pow_le_64 (L.inWord_le w n k)
  simp only [List.getD, List.getElem?_eq_getElem hk, Option.getD_some] at h1
  omega
/-- a packing of lanes of width 1 has no bit beyond its lanes -/
theorem isPack_beyond {n : Nat} {ws : List Nat} (h : L.IsPack 1 n ws) (i : Nat) (hi : n ≤ i) : bitOf ws i = false := by
  by_cases hl : i / 64 < ws.length
  · have h1 := h.2 (i / 64) hl
    unfold bitOf
    apply Nat.testBit_lt_two_pow
    refine Nat.lt_of_lt_of_le h1 (Nat.pow_le_pow_right (by omega) ?_)
    unfold L.inWord; omega
  · exact bitOf_out ws i (by omega)
theorem bmL_isBm (fl : List Bool) : IsBm fl.length (bmL fl) (fun i => fl.getD i false) := by
  have hpk := L.pack_isPack (w := 1) (by omega) (fl.map Bool.toNat) (toNat_lt fl)
  rw [List.length_map] at hpk
  refine ⟨hpk.1, isPack_lt hpk, fun i _ => ?_⟩
  by_cases hi : i < fl.length
  · have h1 := L.lanes_pack (w := 1) (by omega) (fl.map Bool.toNat) (toNat_lt fl)
    have h2 := L.lanesL_get 1 (fl.map Bool.toNat).length (bmL fl) i (by simpa using hi)
    have h3 : (L.lanesL 1 (fl.map Bool.toNat).length (bmL fl)) = fl.map Bool.toNat := h1
    rw [h3, laneOf_one] at h2
    have h4 : (fl.map Bool.toNat).getD i 0 = (fl.getD i false).toNat := by simp [List.getD, List.getElem?_eq_getElem hi]
    rw [h4] at h2
    simp only [hi, decide_true, Bool.true_and]
    exact (toNat_inj h2).symm
  · have hz := isPack_beyond hpk i (by omega)
    unfold bmL; rw [hz]; simp [hi]
theorem IsBm.eq_bmL {n : Nat} {a : List Nat} {f : Nat → Bool} (ha : IsBm n a f) : a = bmL ((List.range n).map f) := by
  apply ha.unique
  have h := bmL_isBm ((List.range n).map f)
  rw [List.length_map, List.length_range] at h
  refine ⟨h.1, h.2.1, fun i hi => ?_⟩
  rw [h.2.2 i hi]
  by_cases hin : i < n
  · simp [hin, List.getD, List.getElem?_range hin]
  · simp [hin]
/-- a packing of lanes of width 1 is the bitmap of its bits -/
theorem isPack_isBm {n : Nat} {ws : List Nat} (h : L.IsPack 1 n ws) : IsBm n ws (bitOf ws) := by
  refine ⟨h.1, isPack_lt h, fun i _ => ?_⟩
  by_cases hi : i < n
  · simp [hi]
  · rw [isPack_beyond h i (by omega)]; simp [hi]

/-- one bit set -/
theorem bitOf_set (ws : List Nat) (i : Nat) (hi : i < 64 * ws.length) (j : Nat) : bitOf (ws.set (i / 64) (ws.getD (i / 64) 0 ||| 2 ^ (i % 64))) j = (bitOf ws j || decide (j = i)) := by
  unfold bitOf
  have hl : i / 64 < ws.length := by omega
  by_cases hk : j / 64 = i / 64
  · have e : (ws.set (i / 64) (ws.getD (i / 64) 0 ||| 2 ^ (i % 64))).getD (j / 64) 0 = ws.getD (i / 64) 0 ||| 2 ^ (i % 64) := by
      rw [hk]; simp [List.getD, hl]
    rw [e, Nat.testBit_or, Nat.testBit_two_pow, hk]
    congr 1
    rw [decide_eq_decide]; omega
  · have e : (ws.set (i / 64) (ws.getD (i / 64) 0 ||| 2 ^ (i % 64))).getD (j / 64) 0 = ws.getD (j / 64) 0 := by
      simp only [List.getD]; rw [List.getElem?_set_ne (by omega)]
    have : ¬ j = i := fun h => hk (by rw [h])
    rw [e]; simp [this]
theorem set_lt64 (ws : List Nat) (hw : ∀ x ∈ ws, x < 18446744073709551616) (i : Nat) : ∀ x ∈ ws.set (i / 64) (ws.getD (i / 64) 0 ||| 2 ^ (i % 64)), x < 18446744073709551616 := by
  intro x hx
  rcases List.mem_or_eq_of_mem_set hx with h | h
  · exact hw x h
  · rw [h]
    have h1 : ws.getD (i / 64) 0 < 2 ^ 64 := L.getD_lt (w := 64) (fun a ha => by have := hw a ha; omega) (i / 64)
    have h2 : 2 ^ (i % 64) < 2 ^ 64 := Nat.pow_lt_pow_right (by omega) (by omega)
    have := Nat.or_lt_two_pow h1 h2
    omega

/-- the lowest set bit -/
theorem ctz_form (x : Nat) (h0 : x ≠ 0) (h : x < 18446744073709551616) : ∃ m, x = 2 ^ Lib.ctz 64 x + 2 ^ (Lib.ctz 64 x + 1) * m ∧ Lib.ctz 64 x < 64 := by
  obtain ⟨m, hm, hk⟩ := Lib.ctzFrom_spec 64 x (by omega) (by omega)
  have e : Lib.ctz 64 x = Lib.ctzFrom 64 x := by simp [Lib.ctz, h0]
  rw [e]
  refine ⟨m, ?_, hk⟩
  conv => lhs; rw [hm]
  rw [Nat.mul_add, Nat.mul_one, Nat.pow_succ, Nat.mul_assoc, Nat.add_comm]
theorem clear_lowest (x : Nat) (h0 : x ≠ 0) (h : x < 18446744073709551616) (p : Nat) : (x &&& (x - 1)).testBit p = (x.testBit p && decide (p ≠ Lib.ctz 64 x)) ∧ x.testBit (Lib.ctz 64 x) = true ∧ (x &&& (x - 1)) < x := by
  obtain ⟨m, hm, hk⟩ := ctz_form x h0 h
  generalize Lib.ctz 64 x = t at *
  have hp : 0 < 2 ^ t := Nat.pow_pos (by omega)
  have hlt : 2 ^ t < 2 ^ (t + 1) := Nat.pow_lt_pow_right (by omega) (by omega)
  have hand : x &&& (x - 1) = 2 ^ (t + 1) * m := by
    rw [show x - 1 = (2 ^ t - 1) + 2 ^ (t + 1) * m from by omega]
    conv => lhs; rw [hm]
    rw [L.and_join (t + 1) _ _ m m hlt (by omega), Nat.and_self]
    have : 2 ^ t &&& (2 ^ t - 1) = 0 := by rw [Nat.and_two_pow_sub_one_eq_mod, Nat.mod_self]
    rw [this, Nat.zero_add]
  have hb : ∀ q, x.testBit q = if q < t + 1 then decide (t = q) else m.testBit (q - (t + 1)) := by
    intro q; rw [hm, Nat.add_comm, Nat.testBit_two_pow_mul_add _ hlt, Nat.testBit_two_pow]
  refine ⟨?_, by rw [hb]; simp, by rw [hand]; omega⟩
  rw [hand, hb, show 2 ^ (t + 1) * m = 2 ^ (t + 1) * m + 0 from rfl, Nat.testBit_two_pow_mul_add _ (Nat.pow_pos (by omega))]
  by_cases hq : p < t + 1
  · rw [if_pos hq, if_pos hq]
    by_cases ht : t = p
    · simp [ht]
    · simp [ht]
  · rw [if_neg hq, if_neg hq]
    have : p ≠ t := by omega
    simp [this]
end Go.Proofs.YtdlkdiaobbakiaaGreatDoor
