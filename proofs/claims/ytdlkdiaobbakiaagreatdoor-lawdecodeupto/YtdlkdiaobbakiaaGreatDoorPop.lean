/- The number of set bits of a word, reckoned by fields (math/bits.OnesCount64), as plain mathematics. -/
import Derived.Test.YtdlkdiaobbakiaaGreatDoorLanes
set_option linter.unusedVariables false
set_option linter.unusedSimpArgs false
set_option linter.unnecessarySimpa false
namespace Go.Proofs.YtdlkdiaobbakiaaGreatDoor.L

/-- how many of the lowest n bits are set -/
def popN : Nat → Nat → Nat
  | 0, _ => 0
  | n + 1, x => x % 2 + popN n (x / 2)
theorem popN_le (n x : Nat) : popN n x ≤ n := by
  induction n generalizing x with
  | zero => simp [popN]
  | succ n ih => simp only [popN]; have := ih (x / 2); omega
theorem popN_add (m n x : Nat) : popN (m + n) x = popN m x + popN n (x / 2 ^ m) := by
  induction m generalizing x with
  | zero => simp [popN]
  | succ m ih =>
    rw [Nat.succ_add]
    simp only [popN, ih]
    rw [Nat.div_div_eq_div_mul, Nat.pow_succ, Nat.mul_comm 2, Nat.add_assoc]
theorem popN_mod (m x : Nat) : popN m (x % 2 ^ m) = popN m x := by
  induction m generalizing x with
  | zero => simp [popN]
  | succ m ih =>
    simp only [popN]
    have e1 : x % 2 ^ (m + 1) % 2 = x % 2 := Nat.mod_mod_of_dvd x ⟨2 ^ m, by rw [Nat.pow_succ, Nat.mul_comm]⟩
    have e2 : x % 2 ^ (m + 1) / 2 = x / 2 % 2 ^ m := by
      rw [Nat.pow_succ, Nat.mul_comm, Nat.mod_mul_right_div_self]
    rw [e1, e2, ih]
theorem popN_snoc (n x : Nat) : popN (n + 1) x = popN n x + if x.testBit n then 1 else 0 := by
  rw [popN_add]
  simp only [popN, Nat.add_zero]
  rw [Nat.testBit_eq_decide_div_mod_eq]
  have : x / 2 ^ n % 2 = 0 ∨ x / 2 ^ n % 2 = 1 := by omega
  rcases this with h | h <;> simp [h]

theorem and_join (w x y X Y : Nat) (hx : x < 2 ^ w) (hy : y < 2 ^ w) : (x + 2 ^ w * X) &&& (y + 2 ^ w * Y) = (x &&& y) + 2 ^ w * (X &&& Y) := by
  apply Nat.eq_of_testBit_eq
  intro i
  have hxy : x &&& y < 2 ^ w := Nat.lt_of_le_of_lt Nat.and_le_left hx
  rw [Nat.testBit_and, Nat.add_comm x, Nat.add_comm y, Nat.add_comm (x &&& y), Nat.testBit_two_pow_mul_add _ hx, Nat.testBit_two_pow_mul_add _ hy, Nat.testBit_two_pow_mul_add _ hxy]
  split <;> simp [Nat.testBit_and]

theorem small1 : ∀ b : Fin 256, ∀ e : Fin 2, (b.val / 2 + 128 * e.val) &&& 85 = b.val / 2 &&& 85 := by decide +kernel
theorem small2 : ∀ b : Fin 256, ∀ e : Fin 4, (b.val / 4 + 64 * e.val) &&& 51 = b.val / 4 &&& 51 := by decide +kernel
theorem small3 : ∀ b : Fin 256, ∀ e : Fin 16, (b.val / 16 + b.val + 16 * e.val) &&& 15 = (b.val / 16 + b.val) &&& 15 := by decide +kernel
def f1 (b : Nat) : Nat := (b / 2 &&& 85) + (b &&& 85)
def f2 (b : Nat) : Nat := (b / 4 &&& 51) + (b &&& 51)
def f3 (b : Nat) : Nat := (b / 16 + b) &&& 15
theorem f123 : ∀ b : Fin 256, f3 (f2 (f1 b.val)) = popN 8 b.val ∧ f1 b.val < 256 ∧ f2 (f1 b.val) ≤ 68 ∧ f2 (f1 b.val) % 16 ≤ 4 := by decide +kernel

theorem step1 (bs : List Nat) (h : ∀ b ∈ bs, b < 256) : (wordOf 8 bs / 2 &&& wordOf 8 (bs.map fun _ => 85)) + (wordOf 8 bs &&& wordOf 8 (bs.map fun _ => 85)) = wordOf 8 (bs.map f1) := by
  induction bs with
  | nil => simp [wordOf]
  | cons b bs ih =>
    have hb := h b (by simp)
    have ih := ih fun x hx => h x (by simp [hx])
    simp only [List.map_cons, wordOf]
    generalize wordOf 8 bs = X at *
    generalize wordOf 8 (bs.map fun _ => 85) = M at *
    have e : (b + 2 ^ 8 * X) / 2 = (b / 2 + 128 * (X % 2)) + 2 ^ 8 * (X / 2) := by omega
    rw [e, and_join 8 _ 85 _ M (by omega) (by omega), and_join 8 b 85 X M (by omega) (by omega)]
    have hs := small1 ⟨b, hb⟩ ⟨X % 2, by omega⟩
    simp only at hs
    rw [hs, ← ih, f1]
    omega
theorem step2 (bs : List Nat) (h : ∀ b ∈ bs, b < 256) : (wordOf 8 bs / 4 &&& wordOf 8 (bs.map fun _ => 51)) + (wordOf 8 bs &&& wordOf 8 (bs.map fun _ => 51)) = wordOf 8 (bs.map f2) := by
  induction bs with
  | nil => simp [wordOf]
  | cons b bs ih =>
    have hb := h b (by simp)
    have ih := ih fun x hx => h x (by simp [hx])
    simp only [List.map_cons, wordOf]
    generalize wordOf 8 bs = X at *
    generalize wordOf 8 (bs.map fun _ => 51) = M at *
    have e : (b + 2 ^ 8 * X) / 4 = (b / 4 + 64 * (X % 4)) + 2 ^ 8 * (X / 4) := by omega
    rw [e, and_join 8 _ 51 _ M (by omega) (by omega), and_join 8 b 51 X M (by omega) (by omega)]
    have hs := small2 ⟨b, hb⟩ ⟨X % 4, by omega⟩
    simp only at hs
    rw [hs, ← ih, f2]
    omega
theorem step3 (bs : List Nat) (h : ∀ b ∈ bs, b ≤ 68 ∧ b % 16 ≤ 4) : (wordOf 8 bs / 16 + wordOf 8 bs) &&& wordOf 8 (bs.map fun _ => 15) = wordOf 8 (bs.map f3) ∧ wordOf 8 bs % 16 ≤ 4 := by
  induction bs with
  | nil => simp [wordOf]
  | cons b bs ih =>
    have hb := h b (by simp)
    have ih := ih fun x hx => h x (by simp [hx])
    simp only [List.map_cons, wordOf]
    generalize wordOf 8 bs = X at *
    generalize wordOf 8 (bs.map fun _ => 15) = M at *
    have e : (b + 2 ^ 8 * X) / 16 + (b + 2 ^ 8 * X) = (b / 16 + b + 16 * (X % 16)) + 2 ^ 8 * (X / 16 + X) := by omega
    rw [e, and_join 8 _ 15 _ M (by omega) (by omega)]
    have hs := small3 ⟨b, by omega⟩ ⟨X % 16, by omega⟩
    simp only at hs
    rw [hs, ih.1, f3]
    omega

def swar3 (x : Nat) : Nat :=
  let a := (x / 2 &&& 6148914691236517205) + (x &&& 6148914691236517205)
  let b := (a / 4 &&& 3689348814741910323) + (a &&& 3689348814741910323)
  (b / 16 + b) &&& 1085102592571150095
theorem swar3_bytes (x : Nat) (hx : x < 18446744073709551616) : swar3 x = wordOf 8 ((List.range 8).map fun j => popN 8 (x / 2 ^ (j * 8) % 2 ^ 8)) := by
  have hw := wordOf_lanes 8 8 x (by simpa using hx)
  obtain ⟨bs, hbs⟩ : ∃ bs, (List.range 8).map (fun j => x / 2 ^ (j * 8) % 2 ^ 8) = bs := ⟨_, rfl⟩
  have hl : bs.length = 8 := by rw [← hbs]; simp
  have hb : ∀ b ∈ bs, b < 256 := by
    intro b hb; rw [← hbs] at hb
    obtain ⟨j, _, rfl⟩ := List.mem_map.1 hb
    exact Nat.mod_lt _ (by decide)
  rw [hbs] at hw
  have hm : ∀ (ds : List Nat) (c : Nat), ds.length = 8 → wordOf 8 (ds.map fun _ => c) = wordOf 8 (List.replicate 8 c) := by
    intro ds c hd
    have : ds.map (fun _ => c) = List.replicate 8 c := by rw [← hd]; exact List.map_const' ..
    rw [this]
  have m0 : wordOf 8 (List.replicate 8 85) = 6148914691236517205 := by decide
  have m1 : wordOf 8 (List.replicate 8 51) = 3689348814741910323 := by decide
  have m2 : wordOf 8 (List.replicate 8 15) = 1085102592571150095 := by decide
  have h1 := step1 bs hb
  rw [hm bs 85 hl, m0, hw] at h1
  have h2 := step2 (bs.map f1) (by intro b hb'; obtain ⟨c, hc, rfl⟩ := List.mem_map.1 hb'; exact (f123 ⟨c, hb c hc⟩).2.1)
  rw [hm (bs.map f1) 51 (by simpa using hl), m1] at h2
  have h3 := (step3 ((bs.map f1).map f2) (by
    intro b hb'
    obtain ⟨c, hc, rfl⟩ := List.mem_map.1 hb'
    obtain ⟨d, hd, rfl⟩ := List.mem_map.1 hc
    exact (f123 ⟨d, hb d hd⟩).2.2)).1
  rw [hm ((bs.map f1).map f2) 15 (by simpa using hl), m2] at h3
  unfold swar3
  simp only
  rw [h1, h2, h3]
  rw [show (List.range 8).map (fun j => popN 8 (x / 2 ^ (j * 8) % 2 ^ 8)) = bs.map (popN 8) from by rw [← hbs, List.map_map]; rfl]
  rw [List.map_map, List.map_map]
  congr 1
  apply List.map_congr_left
  intro b hb'
  exact (f123 ⟨b, hb b hb'⟩).1
def swar (x : Nat) : Nat :=
  let a := swar3 x
  let b := a + a / 256
  let c := b + b / 65536
  (c + c / 4294967296) % 128
theorem swar_pop (x : Nat) (hx : x < 18446744073709551616) : swar x = popN 64 x ∧ swar3 x < 1000000000000000000 := by
  have e : popN 64 x = popN 8 (x / 2 ^ (0 * 8) % 2 ^ 8) + (popN 8 (x / 2 ^ (1 * 8) % 2 ^ 8) + (popN 8 (x / 2 ^ (2 * 8) % 2 ^ 8) + (popN 8 (x / 2 ^ (3 * 8) % 2 ^ 8) + (popN 8 (x / 2 ^ (4 * 8) % 2 ^ 8) +
      (popN 8 (x / 2 ^ (5 * 8) % 2 ^ 8) + (popN 8 (x / 2 ^ (6 * 8) % 2 ^ 8) + popN 8 (x / 2 ^ (7 * 8) % 2 ^ 8))))))) := by
    simp only [popN_mod]
    rw [show (64 : Nat) = 8 + 56 from rfl, popN_add, show (56 : Nat) = 8 + 48 from rfl, popN_add, show (48 : Nat) = 8 + 40 from rfl, popN_add, show (40 : Nat) = 8 + 32 from rfl, popN_add,
      show (32 : Nat) = 8 + 24 from rfl, popN_add, show (24 : Nat) = 8 + 16 from rfl, popN_add, show (16 : Nat) = 8 + 8 from rfl, popN_add]
    simp only [Nat.div_div_eq_div_mul, ← Nat.pow_add]
    simp
  have hl : ∀ y, popN 8 y ≤ 8 := popN_le 8
  unfold swar
  rw [swar3_bytes x hx, e]
  simp only [show List.range 8 = [0, 1, 2, 3, 4, 5, 6, 7] from rfl, List.map_cons, List.map_nil, wordOf]
  have h0 := hl (x / 2 ^ (0 * 8) % 2 ^ 8); have h1 := hl (x / 2 ^ (1 * 8) % 2 ^ 8); have h2 := hl (x / 2 ^ (2 * 8) % 2 ^ 8); have h3 := hl (x / 2 ^ (3 * 8) % 2 ^ 8)
  have h4 := hl (x / 2 ^ (4 * 8) % 2 ^ 8); have h5 := hl (x / 2 ^ (5 * 8) % 2 ^ 8); have h6 := hl (x / 2 ^ (6 * 8) % 2 ^ 8); have h7 := hl (x / 2 ^ (7 * 8) % 2 ^ 8)
  generalize popN 8 (x / 2 ^ (0 * 8) % 2 ^ 8) = c0 at *
  generalize popN 8 (x / 2 ^ (1 * 8) % 2 ^ 8) = c1 at *
  generalize popN 8 (x / 2 ^ (2 * 8) % 2 ^ 8) = c2 at *
  generalize popN 8 (x / 2 ^ (3 * 8) % 2 ^ 8) = c3 at *
  generalize popN 8 (x / 2 ^ (4 * 8) % 2 ^ 8) = c4 at *
  generalize popN 8 (x / 2 ^ (5 * 8) % 2 ^ 8) = c5 at *
  generalize popN 8 (x / 2 ^ (6 * 8) % 2 ^ 8) = c6 at *
  generalize popN 8 (x / 2 ^ (7 * 8) % 2 ^ 8) = c7 at *
  clear hl e hx
  obtain ⟨x3, hx3⟩ : ∃ x3, c0 + 2 ^ 8 * (c1 + 2 ^ 8 * (c2 + 2 ^ 8 * (c3 + 2 ^ 8 * (c4 + 2 ^ 8 * (c5 + 2 ^ 8 * (c6 + 2 ^ 8 * (c7 + 2 ^ 8 * 0))))))) = x3 := ⟨_, rfl⟩
  rw [hx3]
  have e3 : x3 = 1 * c0 + 256 * c1 + 65536 * c2 + 16777216 * c3 + 4294967296 * c4 + 1099511627776 * c5 + 281474976710656 * c6 + 72057594037927936 * c7 := by omega
  clear hx3
  have d1 : x3 / 256 = 1 * c1 + 256 * c2 + 65536 * c3 + 16777216 * c4 + 4294967296 * c5 + 1099511627776 * c6 + 281474976710656 * c7 := by omega
  obtain ⟨x4, hx4⟩ : ∃ x4, x3 + x3 / 256 = x4 := ⟨_, rfl⟩
  simp only [hx4]
  have e4 : x4 = 1 * c0 + 257 * c1 + 65792 * c2 + 16842752 * c3 + 4311744512 * c4 + 1103806595072 * c5 + 282574488338432 * c6 + 72339069014638592 * c7 := by omega
  have hb : x3 < 1000000000000000000 := by omega
  clear hx4 d1 e3
  have d2 : x4 / 65536 = 1 * c2 + 257 * c3 + 65792 * c4 + 16842752 * c5 + 4311744512 * c6 + 1103806595072 * c7 := by omega
  obtain ⟨x5, hx5⟩ : ∃ x5, x4 + x4 / 65536 = x5 := ⟨_, rfl⟩
  simp only [hx5]
  have e5 : x5 = 1 * c0 + 257 * c1 + 65793 * c2 + 16843009 * c3 + 4311810304 * c4 + 1103823437824 * c5 + 282578800082944 * c6 + 72340172821233664 * c7 := by omega
  clear hx5 d2 e4
  have d3 : x5 / 4294967296 = 1 * c4 + 257 * c5 + 65793 * c6 + 16843009 * c7 := by omega
  refine ⟨?_, hb⟩
  rw [d3, e5]
  omega
end Go.Proofs.YtdlkdiaobbakiaaGreatDoor.L
