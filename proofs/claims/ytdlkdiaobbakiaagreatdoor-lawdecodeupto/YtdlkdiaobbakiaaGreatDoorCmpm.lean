/- What comparing a word of lanes sets, as plain mathematics. -/
import Derived.Test.YtdlkdiaobbakiaaGreatDoorCmpb
set_option linter.unusedVariables false
set_option linter.unusedSimpArgs false
set_option linter.unnecessarySimpa false
set_option maxRecDepth 20000
namespace Go.Proofs.YtdlkdiaobbakiaaGreatDoor
open Go.RowKit

theorem wordOf_mul (w c : Nat) (xa : List Nat) : L.wordOf w (xa.map (c * ·)) = c * L.wordOf w xa := by
  induction xa with
  | nil => simp [L.wordOf]
  | cons a xa ih =>
    simp only [List.map_cons, L.wordOf, ih, Nat.mul_add]
    rw [← Nat.mul_assoc, Nat.mul_comm (2 ^ w) c, Nat.mul_assoc]
theorem wordOf_rep (w n c : Nat) : L.wordOf w (List.replicate n c) = c * L.wordOf w (List.replicate n 1) := by
  rw [← wordOf_mul]; simp
theorem wordOf_lt64 (w n : Nat) (xa : List Nat) (hl : xa.length = n) (h : ∀ a ∈ xa, a < 2 ^ w) (h64 : n * w ≤ 64) : L.wordOf w xa < 18446744073709551616 := by
  have := L.wordOf_lt w xa h
  rw [hl, Nat.mul_comm] at this
  have := pow_le_64 h64
  omega
theorem rep_lt {n c m : Nat} (h : c < m) : ∀ x ∈ List.replicate n c, x < m := fun x hx => by rw [List.eq_of_mem_replicate hx]; exact h
theorem rep_getD (n c j : Nat) : (List.replicate n c).getD j 0 = if j < n then c else 0 := by
  simp only [List.getD, List.getElem?_replicate]; split <;> rfl

section
variable {w n : Nat} {xa xb : List Nat}
theorem cmpN_bit (op : Int) (hn1 : xa.length = n) (hn2 : xb.length = n) (ha : ∀ a ∈ xa, a < 2 ^ (w + 1)) (hb : ∀ b ∈ xb, b < 2 ^ (w + 1)) (h64 : n * (w + 1) ≤ 64) (p : Nat) :
    (cmpN op (L.wordOf (w + 1) xa) (L.wordOf (w + 1) xb) (L.wordOf (w + 1) (List.replicate n (2 ^ w)))).testBit p =
      (decide (p / (w + 1) < n ∧ p % (w + 1) = w) && standsB op (xa.getD (p / (w + 1)) 0) (xb.getD (p / (w + 1)) 0)) := by
  have h1 := L.lessN_bit hn1 hn2 ha hb h64 p
  have h2 := L.lessN_bit hn2 hn1 hb ha h64 p
  have hpw : 2 ^ w < 2 ^ (w + 1) := Nat.pow_lt_pow_right (by omega) (by omega)
  have hT := wordOf_lt64 (w + 1) n (List.replicate n (2 ^ w)) (by simp) (rep_lt hpw) h64
  have ht : (L.wordOf (w + 1) (List.replicate n (2 ^ w))).testBit p = decide (p / (w + 1) < n ∧ p % (w + 1) = w) := by
    rw [L.wordOf_testBit (by omega) _ (rep_lt hpw), rep_getD]
    by_cases hj : p / (w + 1) < n
    · rw [if_pos hj, Nat.testBit_two_pow, decide_eq_decide]; omega
    · rw [if_neg hj]; simp [hj]
  have hx64 := lessN_lt (L.wordOf (w + 1) xa) (L.wordOf (w + 1) xb) _ hT
  have hy64 := lessN_lt (L.wordOf (w + 1) xb) (L.wordOf (w + 1) xa) _ hT
  unfold cmpN
  generalize L.lessN (L.wordOf (w + 1) xa) (L.wordOf (w + 1) xb) (L.wordOf (w + 1) (List.replicate n (2 ^ w))) = X at *
  generalize L.lessN (L.wordOf (w + 1) xb) (L.wordOf (w + 1) xa) (L.wordOf (w + 1) (List.replicate n (2 ^ w))) = Y at *
  generalize hTT : L.wordOf (w + 1) (List.replicate n (2 ^ w)) = T at *
  have hp64 : (p / (w + 1) < n ∧ p % (w + 1) = w) → p < 64 := by
    rintro ⟨hj, hr⟩
    have h1 := Nat.div_add_mod p (w + 1)
    have h3 : (p / (w + 1) + 1) * (w + 1) ≤ n * (w + 1) := Nat.mul_le_mul_right _ hj
    rw [Nat.add_mul, Nat.one_mul, Nat.mul_comm] at h3
    omega
  have hXY : (X ||| Y) < 2 ^ 64 := Nat.or_lt_two_pow (n := 64) hx64 hy64
  generalize xa.getD (p / (w + 1)) 0 = x at *
  generalize xb.getD (p / (w + 1)) 0 = y at *
  unfold standsB
  by_cases hin : p / (w + 1) < n ∧ p % (w + 1) = w
  · have h64' := hp64 hin
    simp only [hin, and_self, decide_true, Bool.true_and] at h1 h2 ht ⊢
    split
    · rw [Nat.testBit_and, L.M64_sub_testBit _ _ hXY, Nat.testBit_or, ht, h1, h2]
      simp only [h64', decide_true, Bool.true_and]
      by_cases c1 : x < y <;> by_cases c2 : y < x <;> simp [c1, c2] <;> omega
    · split
      · rw [Nat.testBit_or, h1, h2]
        by_cases c1 : x < y <;> by_cases c2 : y < x <;> simp [c1, c2] <;> omega
      · split
        · exact h1
        · split
          · rw [Nat.testBit_and, L.M64_sub_testBit _ _ hy64, ht, h2]
            simp only [h64', decide_true, Bool.true_and]
            by_cases c2 : y < x <;> simp [c2] <;> omega
          · split
            · exact h2
            · rw [Nat.testBit_and, L.M64_sub_testBit _ _ hx64, ht, h1]
              simp only [h64', decide_true, Bool.true_and]
              by_cases c2 : x < y <;> simp [c2] <;> omega
  · have hd : decide (p / (w + 1) < n ∧ p % (w + 1) = w) = false := decide_eq_false hin
    rw [hd, Bool.false_and] at h1 h2 ⊢
    rw [hd] at ht
    split
    · rw [Nat.testBit_and, ht, Bool.false_and]
    · split
      · rw [Nat.testBit_or, h1, h2]; rfl
      · split
        · exact h1
        · split
          · rw [Nat.testBit_and, ht, Bool.false_and]
          · split
            · exact h2
            · rw [Nat.testBit_and, ht, Bool.false_and]
/-- where the hits of a word's first c lanes fall -/
theorem hits_at (op : Int) (c first i : Nat) (hn1 : xa.length = n) (hn2 : xb.length = n) (ha : ∀ a ∈ xa, a < 2 ^ (w + 1)) (hb : ∀ b ∈ xb, b < 2 ^ (w + 1)) (h64 : n * (w + 1) ≤ 64) (hc : c ≤ n) :
    hitAt (w + 1) first (cmpN op (L.wordOf (w + 1) xa) (L.wordOf (w + 1) xb) (L.wordOf (w + 1) (List.replicate n (2 ^ w))) &&& (2 ^ (c * (w + 1)) - 1)) i =
      (decide (first ≤ i ∧ i < first + c) && standsB op (xa.getD (i - first) 0) (xb.getD (i - first) 0)) := by
  rw [Bool.eq_iff_iff]
  simp only [hitAt, List.any_eq_true, List.mem_range, Bool.and_eq_true, decide_eq_true_eq, Nat.testBit_and, Nat.testBit_two_pow_sub_one, cmpN_bit op hn1 hn2 ha hb h64]
  constructor
  · rintro ⟨p, hp, ⟨⟨⟨h1, h2⟩, h3⟩, h4⟩, h5⟩
    have h6 : p / (w + 1) < c := Nat.div_lt_of_lt_mul (by rw [Nat.mul_comm]; exact h4)
    generalize p / (w + 1) = q at *
    have e : i - first = q := by omega
    rw [e]
    exact ⟨by omega, h3⟩
  · rintro ⟨⟨h1, h2⟩, h3⟩
    have e : ((i - first) * (w + 1) + w) / (w + 1) = i - first := by
      rw [Nat.mul_comm, Nat.mul_add_div (by omega), Nat.div_eq_of_lt (by omega), Nat.add_zero]
    have e2 : ((i - first) * (w + 1) + w) % (w + 1) = w := by rw [Nat.mul_comm, Nat.mul_add_mod, Nat.mod_eq_of_lt (by omega)]
    have h6 : (i - first + 1) * (w + 1) ≤ n * (w + 1) := Nat.mul_le_mul_right _ (by omega)
    have h7 : (i - first + 1) * (w + 1) ≤ c * (w + 1) := Nat.mul_le_mul_right _ (by omega)
    rw [Nat.add_mul, Nat.one_mul] at h6 h7
    refine ⟨(i - first) * (w + 1) + w, by omega, ⟨⟨⟨?_, e2⟩, ?_⟩, by omega⟩, ?_⟩
    · rw [e]; omega
    · rw [e]; exact h3
    · rw [e]; omega
end

/-- which lanes stand in the relation -/
def cmpF (wd : Nat) (op : Int) (xs : List Nat) (c : Nat) (i : Nat) : Bool := standsB op (L.laneOf wd xs i) c
def cmpOk (wd n op : Int) (xs : List Nat) : Bool := isRel op && okPack wd n xs
def cmpR (wd n op : Int) (xs : List Nat) (c : Nat) : List Nat := if cmpOk wd n op xs = true then bmL ((List.range n.toNat).map (cmpF wd.toNat op xs c)) else []
theorem bmL_len (fl : List Bool) : (bmL fl).length = L.nWords 1 fl.length := (bmL_isBm fl).1
theorem cmpR_lt (wd n op : Int) (xs : List Nat) (c : Nat) : ∀ x ∈ cmpR wd n op xs c, x < 18446744073709551616 := by
  intro x hx
  unfold cmpR at hx
  split at hx
  · exact (bmL_isBm _).2.1 x hx
  · cases hx
theorem cmpR_len (wd n op : Int) (xs : List Nat) (c : Nat) : (cmpR wd n op xs c).length ≤ 65536 := by
  unfold cmpR
  split
  · rename_i h
    simp only [cmpOk, okPack, okLim, Bool.and_eq_true, decide_eq_true_eq] at h
    rw [bmL_len]
    have := L.nWords_le (w := 1) (n := ((List.range n.toNat).map (cmpF wd.toNat op xs c)).length) (by omega)
    simp at this ⊢; omega
  · simp
end Go.Proofs.YtdlkdiaobbakiaaGreatDoor
