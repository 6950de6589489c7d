/- Lanes compared a word at a time, as plain mathematics. -/
import Derived.Test.YtdlkdiaobbakiaaGreatDoorLanes
set_option linter.unusedVariables false
set_option linter.unusedSimpArgs false
set_option linter.unnecessarySimpa false
namespace Go.Proofs.YtdlkdiaobbakiaaGreatDoor.L

theorem wordOf_testBit {w : Nat} (h0 : 0 < w) (as : List Nat) (h : ∀ a ∈ as, a < 2 ^ w) (p : Nat) : (wordOf w as).testBit p = (as.getD (p / w) 0).testBit (p % w) := by
  induction as generalizing p with
  | nil => simp [wordOf]
  | cons v vs ih =>
    have hv := h v (by simp)
    simp only [wordOf]
    rw [Nat.add_comm, Nat.testBit_two_pow_mul_add _ hv]
    by_cases hp : p < w
    · rw [if_pos hp, Nat.div_eq_of_lt hp, Nat.mod_eq_of_lt hp]; rfl
    · rw [if_neg hp, ih (fun a ha => h a (by simp [ha]))]
      have e : p = (p - w) + w := by omega
      have e1 : p / w = (p - w) / w + 1 := by conv => lhs; rw [e, Nat.add_div_right _ h0]
      have e2 : p % w = (p - w) % w := by conv => lhs; rw [e, Nat.add_mod_right]
      rw [e1, e2]; rfl
theorem wordOf_sub (w : Nat) : ∀ (xs ys : List Nat), xs.length = ys.length → (∀ i, ys.getD i 0 ≤ xs.getD i 0) → wordOf w ys ≤ wordOf w xs ∧ wordOf w xs - wordOf w ys = wordOf w (List.zipWith (· - ·) xs ys)
  | [], [], _, _ => by simp [wordOf]
  | x :: xs, y :: ys, hl, h => by
    have h0 := h 0
    have ih := wordOf_sub w xs ys (by simpa using hl) (fun i => by have := h (i + 1); simpa using this)
    simp only [List.getD_cons_zero] at h0
    simp only [wordOf, List.zipWith_cons_cons, ← ih.2]
    have hm : 2 ^ w * wordOf w ys ≤ 2 ^ w * wordOf w xs := Nat.mul_le_mul_left _ ih.1
    refine ⟨by omega, ?_⟩
    rw [Nat.mul_sub]; omega
  | [], _ :: _, hl, _ => by simp at hl
  | _ :: _, [], hl, _ => by simp at hl

def M64 : Nat := 18446744073709551615
theorem M64_sub_testBit (x p : Nat) (hx : x < 2 ^ 64) : (M64 - x).testBit p = (decide (p < 64) && !x.testBit p) := by
  have e : M64 - x = 2 ^ 64 - (x + 1) := by unfold M64; omega
  rw [e, Nat.testBit_two_pow_sub_succ hx]
def lessN (a b t : Nat) : Nat := (((M64 - a) &&& b) ||| ((M64 - (a ^^^ b)) &&& (M64 - ((a ||| t) - (b &&& (M64 - t)))))) &&& t

theorem or_high (w a : Nat) (ha : a < 2 ^ (w + 1)) : a ||| 2 ^ w = 2 ^ w + a % 2 ^ w := by
  have hm : a % 2 ^ w < 2 ^ w := Nat.mod_lt _ (Nat.pow_pos (by omega))
  rw [Nat.add_comm, ← or_bit _ _ hm]
  apply Nat.eq_of_testBit_eq
  intro i
  rw [Nat.testBit_or, Nat.testBit_or, Nat.testBit_mod_two_pow, Nat.testBit_two_pow]
  by_cases h : i < w
  · simp [h]
  · by_cases h2 : w = i
    · simp [h2]
    · have : a.testBit i = false := Nat.testBit_lt_two_pow (Nat.lt_of_lt_of_le ha (Nat.pow_le_pow_right (by omega) (by omega)))
      simp [h, this]
theorem high_bit (w a : Nat) (ha : a < 2 ^ (w + 1)) : a.testBit w = decide (2 ^ w ≤ a) := by
  rw [Nat.testBit_eq_decide_div_mod_eq]
  have hp : 0 < 2 ^ w := Nat.pow_pos (by omega)
  rw [Nat.pow_succ] at ha
  by_cases h : 2 ^ w ≤ a
  · have : a / 2 ^ w = 1 := by
      apply Nat.div_eq_of_lt_le <;> omega
    simp [this, h]
  · rw [Nat.div_eq_of_lt (by omega)]; simp [h]

section
variable {w n : Nat} {as bs : List Nat}
theorem getD_lt (h : ∀ a ∈ as, a < 2 ^ w) (j : Nat) : as.getD j 0 < 2 ^ w := by
  by_cases hj : j < as.length
  · apply h; simp [List.getD, List.getElem?_eq_getElem hj]
  · simp only [List.getD, List.getElem?_eq_none (show as.length ≤ j by omega), Option.getD_none]; exact Nat.pow_pos (by omega)
theorem getD_map (f : Nat → Nat) (j : Nat) (hj : j < as.length) : (as.map f).getD j 0 = f (as.getD j 0) := by
  simp [List.getD, List.getElem?_eq_getElem hj]
theorem getD_out (j : Nat) (hj : as.length ≤ j) : as.getD j 0 = 0 := by simp [List.getD, List.getElem?_eq_none hj]

/-- the difference that tells how the bits below the top ones compare -/
theorem notLess (hn1 : as.length = n) (hn2 : bs.length = n) (ha : ∀ a ∈ as, a < 2 ^ (w + 1)) (hb : ∀ b ∈ bs, b < 2 ^ (w + 1)) (h64 : n * (w + 1) ≤ 64) :
    wordOf (w + 1) bs &&& (M64 - wordOf (w + 1) (List.replicate n (2 ^ w))) ≤ wordOf (w + 1) as ||| wordOf (w + 1) (List.replicate n (2 ^ w)) ∧
    (wordOf (w + 1) as ||| wordOf (w + 1) (List.replicate n (2 ^ w))) - (wordOf (w + 1) bs &&& (M64 - wordOf (w + 1) (List.replicate n (2 ^ w)))) =
      wordOf (w + 1) (List.zipWith (· - ·) (as.map (· ||| 2 ^ w)) (bs.map (· % 2 ^ w))) := by
  have hp : 0 < 2 ^ w := Nat.pow_pos (by omega)
  have hpw : 2 ^ w < 2 ^ (w + 1) := Nat.pow_lt_pow_right (by omega) (by omega)
  have ht : ∀ t ∈ List.replicate n (2 ^ w), t < 2 ^ (w + 1) := fun t ht => by rw [List.eq_of_mem_replicate ht]; exact hpw
  have hT : wordOf (w + 1) (List.replicate n (2 ^ w)) < 2 ^ 64 := by
    have := wordOf_lt (w + 1) _ ht
    rw [List.length_replicate, Nat.mul_comm] at this
    exact Nat.lt_of_lt_of_le this (Nat.pow_le_pow_right (by omega) h64)
  have hor : ∀ x ∈ as.map (· ||| 2 ^ w), x < 2 ^ (w + 1) := by
    intro x hx; obtain ⟨a, haa, rfl⟩ := List.mem_map.1 hx
    exact Nat.or_lt_two_pow (ha a haa) hpw
  have hmd : ∀ x ∈ bs.map (· % 2 ^ w), x < 2 ^ (w + 1) := by
    intro x hx; obtain ⟨b, hbb, rfl⟩ := List.mem_map.1 hx
    exact Nat.lt_trans (Nat.mod_lt _ hp) hpw
  have hTr : ∀ j, (List.replicate n (2 ^ w)).getD j 0 = if j < n then 2 ^ w else 0 := by
    intro j; simp only [List.getD, List.getElem?_replicate]; split <;> rfl
  have e1 : wordOf (w + 1) as ||| wordOf (w + 1) (List.replicate n (2 ^ w)) = wordOf (w + 1) (as.map (· ||| 2 ^ w)) := by
    apply Nat.eq_of_testBit_eq
    intro p
    rw [Nat.testBit_or, wordOf_testBit (by omega) as ha, wordOf_testBit (by omega) _ ht, wordOf_testBit (by omega) _ hor, hTr]
    by_cases hj : p / (w + 1) < n
    · rw [if_pos hj, getD_map _ _ (by omega), Nat.testBit_or]
    · rw [if_neg hj, getD_out _ (by omega), getD_out _ (by simp; omega)]; simp
  have e2 : wordOf (w + 1) bs &&& (M64 - wordOf (w + 1) (List.replicate n (2 ^ w))) = wordOf (w + 1) (bs.map (· % 2 ^ w)) := by
    apply Nat.eq_of_testBit_eq
    intro p
    rw [Nat.testBit_and, M64_sub_testBit _ _ hT, wordOf_testBit (by omega) bs hb, wordOf_testBit (by omega) _ ht, wordOf_testBit (by omega) _ hmd, hTr]
    by_cases hj : p / (w + 1) < n
    · have hp64 : p < 64 := by
        have h1 := Nat.div_add_mod p (w + 1)
        have h2 : p % (w + 1) < w + 1 := Nat.mod_lt _ (by omega)
        have h3 : (p / (w + 1) + 1) * (w + 1) ≤ n * (w + 1) := Nat.mul_le_mul_right _ hj
        rw [Nat.add_mul, Nat.one_mul, Nat.mul_comm] at h3
        omega
      rw [if_pos hj, getD_map _ _ (by omega), Nat.testBit_mod_two_pow, Nat.testBit_two_pow]
      have hr : p % (w + 1) < w + 1 := Nat.mod_lt _ (by omega)
      by_cases hrw : p % (w + 1) < w
      · have : ¬ w = p % (w + 1) := by omega
        simp [hp64, hrw, this]
      · have : w = p % (w + 1) := by omega
        simp [← this]
    · rw [if_neg hj, getD_out _ (by omega), getD_out (as := bs.map _) _ (by simp; omega)]; simp
  rw [e1, e2]
  apply wordOf_sub
  · simp; omega
  · intro j
    by_cases hj : j < n
    · rw [getD_map _ _ (by omega), getD_map _ _ (by omega), or_high w _ (getD_lt ha j)]
      have : bs.getD j 0 % 2 ^ w < 2 ^ w := Nat.mod_lt _ hp
      omega
    · rw [getD_out _ (by simp; omega), getD_out _ (by simp; omega)]; exact Nat.le_refl _

/-- the top bit of a lane is set exactly where the lane is less; no other bit is -/
theorem lessN_bit (hn1 : as.length = n) (hn2 : bs.length = n) (ha : ∀ a ∈ as, a < 2 ^ (w + 1)) (hb : ∀ b ∈ bs, b < 2 ^ (w + 1)) (h64 : n * (w + 1) ≤ 64) (p : Nat) :
    (lessN (wordOf (w + 1) as) (wordOf (w + 1) bs) (wordOf (w + 1) (List.replicate n (2 ^ w)))).testBit p =
      (decide (p / (w + 1) < n ∧ p % (w + 1) = w) && decide (as.getD (p / (w + 1)) 0 < bs.getD (p / (w + 1)) 0)) := by
  have hp : 0 < 2 ^ w := Nat.pow_pos (by omega)
  have hpw : 2 ^ w < 2 ^ (w + 1) := Nat.pow_lt_pow_right (by omega) (by omega)
  have ht : ∀ t ∈ List.replicate n (2 ^ w), t < 2 ^ (w + 1) := fun t ht => by rw [List.eq_of_mem_replicate ht]; exact hpw
  have hTr : ∀ j, (List.replicate n (2 ^ w)).getD j 0 = if j < n then 2 ^ w else 0 := by
    intro j; simp only [List.getD, List.getElem?_replicate]; split <;> rfl
  have hA64 : ∀ cs : List Nat, cs.length = n → (∀ c ∈ cs, c < 2 ^ (w + 1)) → wordOf (w + 1) cs < 2 ^ 64 := by
    intro cs hl hc
    have := wordOf_lt (w + 1) cs hc
    rw [hl, Nat.mul_comm] at this
    exact Nat.lt_of_lt_of_le this (Nat.pow_le_pow_right (by omega) h64)
  have hnl := notLess hn1 hn2 ha hb h64
  unfold lessN
  rw [hnl.2]
  have hdl : ∀ d ∈ List.zipWith (· - ·) (as.map (· ||| 2 ^ w)) (bs.map (· % 2 ^ w)), d < 2 ^ (w + 1) := by
    intro d hd
    obtain ⟨i, hi, rfl⟩ := List.getElem_of_mem hd
    rw [List.getElem_zipWith, List.getElem_map]
    refine Nat.lt_of_le_of_lt (Nat.sub_le _ _) (Nat.or_lt_two_pow (ha _ (List.getElem_mem _)) hpw)
  have hD64 := hA64 (List.zipWith (· - ·) (as.map (· ||| 2 ^ w)) (bs.map (· % 2 ^ w))) (by simp; omega) hdl
  have hA := hA64 as hn1 ha
  have hB := hA64 bs hn2 hb
  have hX : wordOf (w + 1) as ^^^ wordOf (w + 1) bs < 2 ^ 64 := Nat.xor_lt_two_pow hA hB
  rw [Nat.testBit_and, Nat.testBit_or, Nat.testBit_and, Nat.testBit_and, M64_sub_testBit _ _ hA, M64_sub_testBit _ _ hX, M64_sub_testBit _ _ hD64, Nat.testBit_xor,
    wordOf_testBit (by omega) as ha, wordOf_testBit (by omega) bs hb, wordOf_testBit (by omega) _ ht, wordOf_testBit (by omega) _ hdl, hTr]
  by_cases hj : p / (w + 1) < n
  · by_cases hr : p % (w + 1) = w
    · have hp64 : p < 64 := by
        have h1 := Nat.div_add_mod p (w + 1)
        have h3 : (p / (w + 1) + 1) * (w + 1) ≤ n * (w + 1) := Nat.mul_le_mul_right _ hj
        rw [Nat.add_mul, Nat.one_mul, Nat.mul_comm] at h3
        omega
      generalize p / (w + 1) = j at *
      have e3 : (List.zipWith (· - ·) (as.map (· ||| 2 ^ w)) (bs.map (· % 2 ^ w))).getD j 0 = 2 ^ w + as.getD j 0 % 2 ^ w - bs.getD j 0 % 2 ^ w := by
        rw [← or_high w _ (getD_lt ha j)]
        simp [List.getD, List.getElem?_eq_getElem (show j < as.length by omega), List.getElem?_eq_getElem (show j < bs.length by omega), List.getElem?_zipWith]
      rw [if_pos hj, hr, e3, high_bit w _ (getD_lt ha j), high_bit w _ (getD_lt hb j)]
      have ha1 := getD_lt ha j
      have hb1 := getD_lt hb j
      generalize as.getD j 0 = x at *
      generalize bs.getD j 0 = y at *
      rw [Nat.pow_succ] at ha1 hb1
      have hxm := Nat.mod_lt x hp
      have hym := Nat.mod_lt y hp
      have hd : (2 ^ w + x % 2 ^ w - y % 2 ^ w).testBit w = decide (y % 2 ^ w ≤ x % 2 ^ w) := by
        rw [high_bit w _ (by rw [Nat.pow_succ]; omega)]
        rw [decide_eq_decide]; omega
      rw [hd]
      have hxe : x = x % 2 ^ w + if 2 ^ w ≤ x then 2 ^ w else 0 := by
        split
        · rename_i h
          have : x / 2 ^ w = 1 := by apply Nat.div_eq_of_lt_le <;> omega
          have := Nat.div_add_mod x (2 ^ w)
          rw [‹x / 2 ^ w = 1›] at this; omega
        · rw [Nat.mod_eq_of_lt (by omega)]; rfl
      have hye : y = y % 2 ^ w + if 2 ^ w ≤ y then 2 ^ w else 0 := by
        split
        · rename_i h
          have : y / 2 ^ w = 1 := by apply Nat.div_eq_of_lt_le <;> omega
          have := Nat.div_add_mod y (2 ^ w)
          rw [‹y / 2 ^ w = 1›] at this; omega
        · rw [Nat.mod_eq_of_lt (by omega)]; rfl
      have htt : (2 ^ w).testBit w = true := by rw [Nat.testBit_two_pow]; simp
      rw [htt]
      generalize x % 2 ^ w = xm at *
      generalize y % 2 ^ w = ym at *
      by_cases c1 : 2 ^ w ≤ x
      · rw [if_pos c1] at hxe
        by_cases c2 : 2 ^ w ≤ y
        · rw [if_pos c2] at hye
          by_cases c3 : ym ≤ xm
          · have c4 : ¬ x < y := by omega
            simp [c1, c2, c3, c4, hp64, hj]
          · have c4 : x < y := by omega
            simp [c1, c2, c3, c4, hp64, hj]
        · have c4 : ¬ x < y := by omega
          simp [c1, c2, c4, hp64, hj]
      · rw [if_neg c1] at hxe
        by_cases c2 : 2 ^ w ≤ y
        · have c4 : x < y := by omega
          simp [c1, c2, c4, hp64, hj]
        · rw [if_neg c2] at hye
          by_cases c3 : ym ≤ xm
          · have c4 : ¬ x < y := by omega
            simp [c1, c2, c3, c4, hp64, hj]
          · have c4 : x < y := by omega
            simp [c1, c2, c3, c4, hp64, hj]
    · have : (2 ^ w).testBit (p % (w + 1)) = false := by rw [Nat.testBit_two_pow]; simp; omega
      rw [if_pos hj, this]; simp [hr]
  · rw [if_neg hj]; simp [hj]
end
end Go.Proofs.YtdlkdiaobbakiaaGreatDoor.L
