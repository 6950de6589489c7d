/- Package format: the hash of a value, and its places in a filter. -/
import Derived.Test.YtgobcaianpmbiaaPut
import Derived.Test.YtgobcaianpmbiaaRefa
import Derived.Test.YtgobcaianpmbiaaBm
set_option linter.unusedVariables false
set_option linter.unusedSimpArgs false
set_option linter.unnecessarySimpa false
set_option maxRecDepth 20000
namespace Go.Proofs.Ytgobcaianpmbiaa
open Go.RowKit

def hashB (h b : Nat) : Nat := ((h ^^^ b) * 1099511628211) % 18446744073709551616
def hashL (bs : List Nat) : Nat := bs.foldl hashB 14695981039346656037
def placeN (h i n : Nat) : Nat := (h % 4294967296 + i * (h / 4294967296 ||| 1)) % (64 * n)
def placesN (h k n : Nat) : List Nat := (List.range k).map fun i => placeN h i n

theorem hashB_lt (h b : Nat) : hashB h b < 18446744073709551616 := Nat.mod_lt _ (by decide)
theorem hashL_lt (bs : List Nat) : hashL bs < 18446744073709551616 := by
  unfold hashL
  have : ∀ (bs : List Nat) (a : Nat), a < 18446744073709551616 → bs.foldl hashB a < 18446744073709551616 := by
    intro bs; induction bs with
    | nil => intro a h; exact h
    | cons b r ih => intro a h; exact ih _ (hashB_lt a b)
  exact this bs _ (by decide)
theorem hashL_snoc (bs : List Nat) (b : Nat) : hashL (bs ++ [b]) = hashB (hashL bs) b := by
  unfold hashL; rw [List.foldl_append, List.foldl_cons, List.foldl_nil]
set_option maxHeartbeats 400000 in
theorem hashByte_any (h b : Nat) (w : World) (hh : h < 18446744073709551616) (hb : b < 256) : Calls Try.prog 50 #[.int .u64 h, .int .u8 b] w fun e w' => e = .returned (.int .u64 (hashB h b : Nat)) ∧ w' = w := by
  go_enter Try.func50, Try.ntmps50
  have hx : bits BinOp.xor IntKind.u64 (h : Int) (b : Int) = ((h ^^^ b : Nat) : Int) := u64_xor_nat _ _ hh (by omega)
  have hlt : h ^^^ b < 18446744073709551616 := by
    have := @Nat.xor_lt_two_pow h b 64 (by omega) (by omega)
    omega
  have hr : ((hashB h b : Nat) : Int) = (((h ^^^ b : Nat) : Int) * 1099511628211) % 18446744073709551616 := by unfold hashB; omega
  rw [hr]
  generalize (h ^^^ b : Nat) = y at *
  clear hr
  go_wp2
  go_ret
  exact ⟨ret_u64 (by simp [IntKind.wrap_u64, *]), rfl⟩
set_option maxHeartbeats 400000 in
theorem hashInt_any (n : Nat) (w : World) (hn : n < 18446744073709551616) : Calls Try.prog 44 #[.int .u64 n] w fun e w' => e = .returned (.int .u64 (hashL (leN 8 n) : Nat)) ∧ w' = w := by
  go_enter Try.func44, Try.ntmps44
  go_wp2
  go_loop [3, 5] (fun h i => ∃ k : Nat, k ≤ 8 ∧ i = .int .i64 k ∧ h = .int .u64 (hashL ((leN 8 n).take k) : Nat)) (fun _ i => 8 - (intOf i).toNat)
  case atStart => exact ⟨0, by omega, rfl, rfl⟩
  case round =>
    obtain ⟨k, hk, rfl, rfl⟩ := hrel
    have hlt := hashL_lt ((leN 8 n).take k)
    by_cases h8 : k < 8
    · have HS : Hid (hashL ((leN 8 n).take (k + 1)) = hashB (hashL ((leN 8 n).take k)) (n / 2 ^ (8 * k) % 256)) := by
        refine hid ?_
        rw [List.take_succ_eq_append_getElem (by simp [leN]; omega), hashL_snoc]
        simp [leN]
      generalize hashL ((leN 8 n).take k) = a at *
      have HB := hid (hashByte_any a (n / 2 ^ (8 * k) % 256) w hlt (by omega))
      obtain ⟨y, hy⟩ : ∃ y, n / 2 ^ (8 * k) % 256 = y := ⟨_, rfl⟩
      obtain ⟨e, he⟩ : ∃ e, 8 * k = e := ⟨_, rfl⟩
      have hy2 : ((n : Int) / 2 ^ e) % 256 = (y : Int) := by rw [← hy, ← he]; simp
      rw [hy] at HB HS
      have he1 : (8 : Int) * (k : Int) = (e : Int) := by omega
      have he2 : e < 64 := by omega
      clear hy he
      go_wp2_with (go_at_call 50; refine HB.out.mono ?_; rintro e w1 ⟨rfl, hw⟩; replace hw := hw.symm; subst hw)
      go_round
      case rel => exact ⟨k + 1, by omega, by go_num, by rw [HS.out]⟩
      case measure => simp [intOf]; omega
    · obtain rfl : k = 8 := by omega
      have e8 : (leN 8 n).take 8 = leN 8 n := List.take_of_length_le (by simp [leN])
      rw [e8] at *
      clear hlt
      go_wp2
      go_ret
      exact ⟨rfl, rfl⟩
set_option maxHeartbeats 400000 in
theorem hashStr_any (s : ByteArray) (w : World) (hs : s.size ≤ 1024) : Calls Try.prog 43 #[.string s] w fun e w' => e = .returned (.int .u64 (hashL (sbs s) : Nat)) ∧ w' = w := by
  obtain ⟨n, hn⟩ : ∃ n, s.size = n := ⟨_, rfl⟩
  have HN := hid hn
  go_enter Try.func43, Try.ntmps43
  rw [hn] at hs
  go_wp2
  go_loop [3, 7] (fun h i => ∃ k : Nat, k ≤ n ∧ i = .int .i64 k ∧ h = .int .u64 (hashL ((sbs s).take k) : Nat)) (fun _ i => n - (intOf i).toNat)
  case atStart => exact ⟨0, by omega, rfl, rfl⟩
  case round =>
    obtain ⟨k, hk, rfl, rfl⟩ := hrel
    have hlt := hashL_lt ((sbs s).take k)
    by_cases h8 : k < n
    · have hks : k < s.size := by omega
      have HS : Hid (hashL ((sbs s).take (k + 1)) = hashB (hashL ((sbs s).take k)) s[k].toNat) := by
        refine hid ?_
        have hg := sbs_get s k hks
        have hl : k < (sbs s).length := by rw [sbs_length]; exact hks
        rw [List.getElem?_eq_getElem hl] at hg
        rw [List.take_succ_eq_append_getElem hl, hashL_snoc, Option.some.inj hg]
      generalize hashL ((sbs s).take k) = a at *
      have HB := hid (hashByte_any a s[k].toNat w hlt s[k].toNat_lt)
      go_wp2_with (go_at_call 50; refine HB.out.mono ?_; rintro e w1 ⟨rfl, hw⟩; replace hw := hw.symm; subst hw)
      go_round
      case rel => exact ⟨k + 1, by omega, by go_num, by rw [HS.out]⟩
      case measure => simp [intOf]; omega
    · obtain rfl : k = n := by omega
      have e8 : (sbs s).take k = sbs s := List.take_of_length_le (by rw [sbs_length]; omega)
      rw [e8] at *
      clear hlt
      go_wp2
      go_ret
      exact ⟨rfl, rfl⟩
/-- the hash of a value -/
def hashC (k : Int) (c : C3) : Nat := hashL (bytesC k c)
set_option maxHeartbeats 400000 in
theorem hashOf_any (k : Int) (c : C3) (w : World) (hs : c.s.size ≤ 1024) : Calls Try.prog 24 #[.int .i64 k, c.v] w fun e w' => e = .returned (.int .u64 (hashC k c : Nat)) ∧ Below w.heap.size w w' := by
  obtain ⟨b, i, s⟩ := c
  unfold C3.v hashC bytesC
  simp only at *
  have HI := hid (fun w2 : World => hashInt_any (toU i) w2 (toU_lt i))
  have HT := hid (fun w2 : World => hashStr_any s w2 hs)
  have HW := wrap_toU i
  clear hs
  by_cases hk : k = 2
  · simp only [if_pos hk]
    go_enter Try.func24, Try.ntmps24
    go_wp2_with (go_at_call 43; refine (HT.out _).mono ?_; rintro e w1 ⟨rfl, hw⟩; replace hw := hw.symm; subst hw)
    go_ret
    exact ⟨rfl, (brefl w).alloc (Nat.le_refl _) _⟩
  · simp only [if_neg hk]
    go_enter Try.func24, Try.ntmps24
    go_wp2_with (go_at_call 44; refine (HI.out _).mono ?_; rintro e w1 ⟨rfl, hw⟩; replace hw := hw.symm; subst hw)
    go_ret
    exact ⟨rfl, (brefl w).alloc (Nat.le_refl _) _⟩
theorem placeN_lt (h i n : Nat) (hn : 0 < n) : placeN h i n < 64 * n := Nat.mod_lt _ (by omega)
set_option maxHeartbeats 400000 in
theorem place_any (h i n : Nat) (w : World) (hh : h < 18446744073709551616) (hi : i ≤ 8) (hn : 0 < n) (hn2 : n ≤ 64) : Calls Try.prog 42 #[.int .u64 h, .int .i64 i, .int .i64 n] w fun e w' => e = .returned (.int .i64 (placeN h i n : Nat)) ∧ w' = w := by
  have hd : h / 4294967296 < 4294967296 := by omega
  have ho : (h / 4294967296 ||| 1) < 4294967296 := Nat.or_lt_two_pow (n := 32) hd (by decide)
  have hand : h &&& 4294967295 = h % 4294967296 := Nat.and_two_pow_sub_one_eq_mod h 32
  have h1 : bits BinOp.and IntKind.u64 (h : Int) 4294967295 = ((h % 4294967296 : Nat) : Int) := by rw [← hand]; exact u64_and_nat h 4294967295 hh (by decide)
  have h2 : bits BinOp.or IntKind.u64 ((h : Int) / 4294967296) 1 = ((h / 4294967296 ||| 1 : Nat) : Int) := by
    have := u64_or_nat (h / 4294967296) 1 (by omega) (by decide)
    rw [← this]; congr 1
  have hp : ((placeN h i n : Nat) : Int) = (((h % 4294967296 : Nat) : Int) + (i : Int) * ((h / 4294967296 ||| 1 : Nat) : Int)) % (64 * (n : Int)) := by unfold placeN; simp
  rw [hp]
  clear hp hand
  generalize (h / 4294967296 ||| 1) = st at *
  have hlo2 : h % 4294967296 < 4294967296 := by omega
  obtain ⟨lo, hlo⟩ : ∃ lo, h % 4294967296 = lo := ⟨_, rfl⟩
  have hloi : (h : Int) % 4294967296 = (lo : Int) := by omega
  rw [hlo] at h1 hlo2 ⊢
  obtain ⟨pr, hpr⟩ : ∃ pr : Int, (i : Int) * (st : Int) = pr := ⟨_, rfl⟩
  have hpr0 : 0 ≤ pr := by rw [← hpr]; exact Int.mul_nonneg (by omega) (by omega)
  have hpr1 : pr ≤ 8 * 4294967296 := by
    rw [← hpr]
    have := Int.mul_le_mul (show (i : Int) ≤ 8 by omega) (show (st : Int) ≤ 4294967296 by omega) (by omega) (by omega)
    omega
  rw [hpr]
  clear hd ho hlo hh
  go_enter Try.func42, Try.ntmps42
  go_wp2
  have hm : ((lo : Int) + pr) % (64 * (n : Int)) < 64 * (n : Int) := Int.emod_lt_of_pos _ (by omega)
  have hm0 : 0 ≤ ((lo : Int) + pr) % (64 * (n : Int)) := Int.emod_nonneg _ (by omega)
  go_ret
  refine ⟨ret_i64 ?_, rfl⟩
  generalize ((lo : Int) + pr) % (64 * (n : Int)) = q at *
  unfold wrap64; omega
theorem bit_test0 (x q : Nat) (hx : x < 18446744073709551616) : (bits BinOp.and IntKind.u64 ((x : Int) / 2 ^ q) 1 == 0) = !x.testBit q := by
  have h := bit_test x q hx
  have h2 : bits BinOp.and IntKind.u64 ((x : Int) / 2 ^ q) 1 = 0 ∨ bits BinOp.and IntKind.u64 ((x : Int) / 2 ^ q) 1 = 1 := by
    have h3 := u64_and_nat (x / 2 ^ q) 1 (Nat.lt_of_le_of_lt (Nat.div_le_self _ _) hx) (by decide)
    have e : ((x / 2 ^ q : Nat) : Int) = (x : Int) / 2 ^ q := by simp
    rw [e] at h3
    rw [show ((1 : Nat) : Int) = 1 from rfl] at h3
    rw [h3]
    have : x / 2 ^ q &&& 1 = x / 2 ^ q % 2 := Nat.and_two_pow_sub_one_eq_mod _ 1
    rw [this]; omega
  rcases h2 with h2 | h2
  · rw [h2] at h ⊢; rw [← h]; rfl
  · rw [h2] at h ⊢; rw [← h]; rfl
end Go.Proofs.Ytgobcaianpmbiaa
