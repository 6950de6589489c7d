/- Package bitvec's counting of set bits. -/
import Derived.Test.YtdlkdiaobbakiaaGreatDoorBm
set_option linter.unusedVariables false
set_option linter.unusedSimpArgs false
set_option linter.unnecessarySimpa false
set_option maxRecDepth 20000
namespace Go.Proofs.YtdlkdiaobbakiaaGreatDoor
open Go.RowKit

theorem add_u64 (a b : Nat) (h : a + b < 18446744073709551616) : IntKind.u64.wrap ((a : Int) + (b : Int)) = ((a + b : Nat) : Int) := by rw [IntKind.wrap_u64]; omega
theorem div_cast (a b : Nat) : (a : Int) / (b : Int) = ((a / b : Nat) : Int) := by simp

set_option maxHeartbeats 1000000 in
theorem onesCount_any (x : Nat) (w : World) (hx : x < 18446744073709551616) : Calls Tryz.prog 96 #[.int .u64 x] w fun e w' => e = .returned (.int .i64 (L.popN 64 x : Nat)) ∧ w' = w := by
  obtain ⟨a, ha⟩ : ∃ a, (x / 2 &&& 6148914691236517205) + (x &&& 6148914691236517205) = a := ⟨_, rfl⟩
  obtain ⟨b, hb⟩ : ∃ b, (a / 4 &&& 3689348814741910323) + (a &&& 3689348814741910323) = b := ⟨_, rfl⟩
  obtain ⟨c, hc⟩ : ∃ c, (b / 16 + b) &&& 1085102592571150095 = c := ⟨_, rfl⟩
  have m0 : ∀ y, y &&& 6148914691236517205 ≤ 6148914691236517205 := fun y => Nat.and_le_right
  have m1 : ∀ y, y &&& 3689348814741910323 ≤ 3689348814741910323 := fun y => Nat.and_le_right
  have hal : a ≤ 12297829382473034410 := by have := m0 (x / 2); have := m0 x; omega
  have hbl : b ≤ 7378697629483820646 := by have := m1 (a / 4); have := m1 a; omega
  have hsw := L.swar_pop x hx
  have hs3 : L.swar3 x = c := by unfold L.swar3; simp only; rw [ha, hb, hc]
  have h1 : IntKind.u64.wrap (bits BinOp.and IntKind.u64 ((x : Int) / 2) 6148914691236517205 + bits BinOp.and IntKind.u64 (x : Int) 6148914691236517205) = (a : Int) := by
    have e1 := u64_and_nat (x / 2) 6148914691236517205 (by omega) (by decide)
    have e2 := u64_and_nat x 6148914691236517205 hx (by decide)
    have e3 : ((x : Int) / 2) = ((x / 2 : Nat) : Int) := by simp
    rw [e3, show (6148914691236517205 : Int) = ((6148914691236517205 : Nat) : Int) from rfl, e1, e2, add_u64 _ _ (by have := m0 (x / 2); have := m0 x; omega), ha]
  have h2 : IntKind.u64.wrap (bits BinOp.and IntKind.u64 ((a : Int) / 4) 3689348814741910323 + bits BinOp.and IntKind.u64 (a : Int) 3689348814741910323) = (b : Int) := by
    have e1 := u64_and_nat (a / 4) 3689348814741910323 (by omega) (by decide)
    have e2 := u64_and_nat a 3689348814741910323 (by omega) (by decide)
    have e3 : ((a : Int) / 4) = ((a / 4 : Nat) : Int) := by simp
    rw [e3, show (3689348814741910323 : Int) = ((3689348814741910323 : Nat) : Int) from rfl, e1, e2, add_u64 _ _ (by have := m1 (a / 4); have := m1 a; omega), hb]
  have h3 : bits BinOp.and IntKind.u64 (IntKind.u64.wrap ((b : Int) / 16 + (b : Int))) 1085102592571150095 = (c : Int) := by
    have e3 : ((b : Int) / 16) = ((b / 16 : Nat) : Int) := by simp
    have hb16 : b / 16 + b < 18446744073709551616 := by omega
    have e1 := u64_and_nat (b / 16 + b) 1085102592571150095 hb16 (by decide)
    rw [e3, add_u64 _ _ hb16, show (1085102592571150095 : Int) = ((1085102592571150095 : Nat) : Int) from rfl, e1, hc]
  rw [hs3] at hsw
  have HSW := hid hsw
  have HS3 := hid hs3
  clear ha hb hc m0 m1 hal hbl hs3 hsw
  obtain ⟨d, hd⟩ : ∃ d, c + c / 256 = d := ⟨_, rfl⟩
  obtain ⟨e, he⟩ : ∃ e, d + d / 65536 = e := ⟨_, rfl⟩
  obtain ⟨f, hf⟩ : ∃ f, e + e / 4294967296 = f := ⟨_, rfl⟩
  have hcl := HSW.out.2
  have h4 : IntKind.u64.wrap ((c : Int) + (c : Int) / 256) = (d : Int) := by
    have e3 : ((c : Int) / 256) = ((c / 256 : Nat) : Int) := by simp
    rw [e3, add_u64 _ _ (by omega), hd]
  have h5 : IntKind.u64.wrap ((d : Int) + (d : Int) / 65536) = (e : Int) := by
    have e3 : ((d : Int) / 65536) = ((d / 65536 : Nat) : Int) := by simp
    rw [e3, add_u64 _ _ (by omega), he]
  have h6 : IntKind.u64.wrap ((e : Int) + (e : Int) / 4294967296) = (f : Int) := by
    have e3 : ((e : Int) / 4294967296) = ((e / 4294967296 : Nat) : Int) := by simp
    rw [e3, add_u64 _ _ (by omega), hf]
  have hfl : f < 9223372036854775808 := by omega
  have HP : Hid (f % 128 = L.popN 64 x) := by
    refine hid ?_
    rw [← HSW.out.1]; unfold L.swar; simp only; rw [HS3.out, hd, he, hf]
  have HFL := hid hfl
  clear hd he hf hcl hfl
  go_enter Tryz.func96, Tryz.ntmps96
  go_wp2
  go_ret
  refine ⟨ret_i64 ?_, rfl⟩
  rw [i64_and127]
  have h7 : wrap64 (f : Int) = (f : Int) := by have := HFL.out; unfold wrap64; omega
  rw [h7, ← HP.out]; simp
theorem countWord_any (x : Nat) (w : World) (hx : x < 18446744073709551616) : Calls Tryz.prog 94 #[.int .u64 x] w fun e w' => e = .returned (.int .i64 (L.popN 64 x : Nat)) ∧ w' = w := by
  go_enter Tryz.func94, Tryz.ntmps94
  go_wp2_with (go_at_call 96; refine (onesCount_any x _ hx).mono ?_; rintro e w' ⟨rfl, rfl⟩)
  go_ret
  exact ⟨rfl, rfl⟩

/-- how many bits of the words are set -/
def popL : List Nat → Nat
  | [] => 0
  | x :: xs => L.popN 64 x + popL xs
theorem popL_append (a b : List Nat) : popL (a ++ b) = popL a + popL b := by
  induction a with
  | nil => simp [popL]
  | cons x a ih => simp only [List.cons_append, popL, ih]; omega
theorem popL_le (a : List Nat) : popL a ≤ 64 * a.length := by
  induction a with
  | nil => simp [popL]
  | cons x a ih => simp only [popL, List.length_cons]; have := L.popN_le 64 x; omega
set_option maxHeartbeats 400000 in
theorem countSet_any (v : Value) (xs : List Nat) (w : World) (hx : Rd w v xs.length 1 (u64s xs)) (hv : ∀ x ∈ xs, x < 18446744073709551616) (hl : xs.length ≤ 65536) :
    Calls Tryz.prog 93 #[v] w fun e w' => e = .returned (.int .i64 (popL xs : Nat)) ∧ w' = w := by
  obtain ⟨A, ca, rfl, hlc, hcm, hA⟩ := hx.form
  clear hx hlc hcm
  go_enter Tryz.func93, Tryz.ntmps93
  go_wp2
  go_loop [3, 8] (fun c i => ∃ j : Nat, j ≤ xs.length ∧ i = .int .i64 j ∧ c = .int .i64 (popL (xs.take j) : Nat)) (fun _ i => xs.length - (intOf i).toNat)
  case atStart => exact ⟨0, by omega, rfl, by simp [popL]⟩
  case round =>
    obtain ⟨j, hj, rfl, rfl⟩ := hrel
    by_cases hlt : j < xs.length
    · obtain ⟨b, o, rfl, hs⟩ := hA (by omega)
      have c1 := hs.word j hlt
      have HX := hid (hv (xs.getD j 0) (by simp [List.getD, List.getElem?_eq_getElem hlt]))
      have HT : Hid (popL (xs.take (j + 1)) = popL (xs.take j) + L.popN 64 (xs.getD j 0)) := by
        refine hid ?_
        rw [List.take_succ_eq_append_getElem hlt, popL_append]
        simp [popL, List.getD, List.getElem?_eq_getElem hlt]
      have hle := popL_le (xs.take j)
      have hll : (xs.take j).length = j := by rw [List.length_take]; omega
      rw [hll] at hle
      have hp := L.popN_le 64 (xs.getD j 0)
      clear hs hA hll
      generalize xs.getD j 0 = x at *
      generalize popL (xs.take j) = a at *
      have HC := hid (countWord_any x w HX.out)
      generalize L.popN 64 x = pc at *
      go_wp2_with (go_at_call 94; refine HC.out.mono ?_; rintro e w' ⟨rfl, rfl⟩)
      go_round
      case rel => exact ⟨j + 1, by omega, by go_num, by rw [HT.out]; go_num⟩
      case measure => simp [intOf]; omega
    · go_wp2
      go_ret
      rw [show j = xs.length from by omega, List.take_length]
      exact ⟨rfl, rfl⟩

/-- how many bits are set below place i -/
def rankN (ws : List Nat) (i : Nat) : Nat := ((List.range i).filter (bitOf ws)).length
theorem rankN_succ (ws : List Nat) (i : Nat) : rankN ws (i + 1) = rankN ws i + if bitOf ws i then 1 else 0 := by
  unfold rankN
  rw [List.range_succ, List.filter_append, List.length_append]
  congr 1
  cases h : bitOf ws i <;> simp [List.filter_cons, h]
theorem rankN_word (ws : List Nat) (q r : Nat) (hr : r ≤ 64) : rankN ws (64 * q + r) = rankN ws (64 * q) + L.popN r (ws.getD q 0) := by
  induction r with
  | zero => simp [L.popN]
  | succ r ih =>
    rw [← Nat.add_assoc, rankN_succ, ih (by omega), L.popN_snoc]
    have e : bitOf ws (64 * q + r) = (ws.getD q 0).testBit r := by
      unfold bitOf; rw [show (64 * q + r) / 64 = q from by omega, show (64 * q + r) % 64 = r from by omega]
    rw [e]; omega
theorem rankN_words (ws : List Nat) (q : Nat) (hq : q ≤ ws.length) : rankN ws (64 * q) = popL (ws.take q) := by
  induction q with
  | zero => simp [rankN, popL]
  | succ q ih =>
    rw [show 64 * (q + 1) = 64 * q + 64 from by omega, rankN_word ws q 64 (by omega), ih (by omega), List.take_succ_eq_append_getElem (by omega), popL_append]
    simp [popL, List.getD, List.getElem?_eq_getElem (show q < ws.length by omega)]
theorem popN_low (x r : Nat) (hr : r ≤ 64) : L.popN 64 (x &&& (2 ^ r - 1)) = L.popN r x := by
  rw [Nat.and_two_pow_sub_one_eq_mod]
  have h := L.popN_add r (64 - r) (x % 2 ^ r)
  rw [show r + (64 - r) = 64 from by omega, L.popN_mod, Nat.div_eq_of_lt (Nat.mod_lt _ (Nat.pow_pos (by omega)))] at h
  have hz : ∀ k, L.popN k 0 = 0 := by intro k; induction k with | zero => rfl | succ k ih => simp [L.popN, ih]
  rw [h, hz, Nat.add_zero]

theorem isBitmap_any (v : Value) (xs : List Nat) (n : Int) (w : World) (hx : Rd w v xs.length 1 (u64s xs)) (hv : ∀ x ∈ xs, x < 18446744073709551616) (hl : xs.length ≤ maxLen) :
    Calls Tryz.prog 92 #[v, .int .i64 n] w fun e w' => e = .returned (.bool (okPack 1 n xs)) ∧ w' = w := by
  have H := hid (isPacking_any v xs 1 n w hx hv hl)
  clear hx hl
  go_enter Tryz.func92, Tryz.ntmps92
  go_wp2_with (go_at_call 130; refine H.out.mono ?_; rintro e w' ⟨rfl, rfl⟩)
  go_ret
  exact ⟨rfl, rfl⟩

/-- what Rank answers -/
def rankR (n i : Int) (xs : List Nat) : Int := if okPack 1 n xs = true ∧ 0 ≤ i ∧ i ≤ n then (rankN xs i.toNat : Int) else -1

theorem Rd.take {w : World} {A : Option Addr} {n cap : Nat} {xs : List Nat} (h : Rd w (.slice A n cap) n 1 (u64s xs)) (q : Nat) (hq : q ≤ n) : Rd w (.slice A q cap) q 1 (u64s (xs.take q)) := by
  have hl : xs.length = n := by have := h.1; simpa [u64s] using this
  have e : u64s (xs.take q) = (u64s xs).take q := by simp [u64s, List.map_take]
  rcases h.2 with ⟨⟨A', hA'⟩, rfl⟩ | ⟨b, o, cap', hA', h1, h2, hs⟩
  · have : q = 0 := by omega
    subst this
    simp only [Value.slice.injEq] at hA'
    obtain ⟨rfl, -, rfl⟩ := hA'
    exact ⟨by simp [u64s], .inl ⟨⟨_, rfl⟩, rfl⟩⟩
  · simp only [Value.slice.injEq] at hA'
    obtain ⟨rfl, -, rfl⟩ := hA'
    refine ⟨by rw [e]; simp [u64s]; omega, .inr ⟨b, o, _, rfl, by omega, h2, ?_⟩⟩
    intro i v hv
    rw [e, List.getElem?_take] at hv
    split at hv
    · exact hs i v hv
    · cases hv

set_option maxHeartbeats 1000000 in
theorem Rank_any (v : Value) (xs : List Nat) (n i : Int) (w : World) (hx : Rd w v xs.length 1 (u64s xs)) (hv : ∀ x ∈ xs, x < 18446744073709551616) (hl : xs.length ≤ maxLen) :
    Calls Tryz.prog 69 #[v, .int .i64 n, .int .i64 i] w fun e w' => e = .returned (.int .i64 (rankR n i xs)) ∧ ∃ m, w' = w.drewN m := by
  obtain ⟨A, ca, rfl, hlc, hcm, hA⟩ := hx.form
  have H := hid (isBitmap_any _ xs n w hx hv hl)
  obtain ⟨R, hR⟩ : ∃ R, rankR n i xs = R := ⟨_, rfl⟩
  rw [hR]
  have HR := hid hR
  clear hR
  generalize hok : okPack 1 n xs = ok at *
  have HOK := hid hok
  have HV := hid hv
  clear hok hv
  go_enter Tryz.func69, Tryz.ntmps69
  cases ok
  · go_wp2_with (go_at_call 92; refine H.out.mono ?_; rintro e w' ⟨rfl, rfl⟩)
    go_ret
    exact ⟨ret_i64 (by rw [← HR.out, rankR, if_neg (by rw [HOK.out]; simp)]), 0, rfl⟩
  · by_cases h0 : i < 0
    · go_wp2_with (go_at_call 92; refine H.out.mono ?_; rintro e w' ⟨rfl, rfl⟩)
      go_ret
      exact ⟨ret_i64 (by rw [← HR.out, rankR, if_neg (by omega)]), 0, rfl⟩
    · by_cases h1 : n < i
      · go_wp2_with (go_at_call 92; refine H.out.mono ?_; rintro e w' ⟨rfl, rfl⟩)
        go_ret
        exact ⟨ret_i64 (by rw [← HR.out, rankR, if_neg (by omega)]), 0, rfl⟩
      · obtain ⟨k, rfl⟩ := Int.eq_ofNat_of_zero_le (show 0 ≤ i by omega)
        obtain ⟨m, rfl⟩ := Int.eq_ofNat_of_zero_le (show 0 ≤ n by omega)
        have hm : m ≤ 65536 := by
          refine Decidable.byContradiction fun hc => ?_
          have := HOK.out
          rw [okPack_not _ (by omega)] at this; cases this
        have hlen : xs.length = (m + 63) / 64 := ((okPack_nat (wd := 1) (n := m) xs (by decide) hm).1 HOK.out).1.trans (by rw [L.nWords_cases (by decide) (by decide)]; simp only [Nat.div_one]; split <;> omega)
        obtain ⟨q, hq⟩ : ∃ q, k / 64 = q := ⟨_, rfl⟩
        obtain ⟨r, hr⟩ : ∃ r, k % 64 = r := ⟨_, rfl⟩
        have hq' : (k : Int) / 64 = (q : Int) := by omega
        have hr' : (k : Int) % 64 = (r : Int) := by omega
        have hr64 : r < 64 := by omega
        have hqx : q ≤ xs.length := by omega
        have HQ : Hid (R = ((rankN xs (64 * q + r) : Nat) : Int)) := by
          refine hid ?_; rw [← HR.out, rankR, if_pos ⟨HOK.out, by omega, by omega⟩]; congr 2; simp; omega
        have hqs : r ≠ 0 → q < xs.length := by omega
        have HLT := hid hqs
        have HC := hid (countSet_any _ (xs.take q) w (by have := hx.take q hqx; rwa [show (xs.take q).length = q from by simp; omega]) (fun x hx => HV.out x (List.mem_of_mem_take hx)) (by simp; omega))
        have HRW := hid (rankN_words xs q hqx)
        have HPL := hid (popL_le (xs.take q))
        generalize popL (xs.take q) = pc at *
        clear hq hr hlen hqs
        by_cases hr0 : r = 0
        · have HR0 := hid hr0
          have hrz : ((r : Int) == 0) = true := by simpa using hr0
          clear hr0
          go_wp2_with (first | (go_at_call 92; refine H.out.mono ?_; rintro e w' ⟨rfl, rfl⟩) | (go_at_call 93; refine HC.out.mono ?_; rintro e w' ⟨rfl, rfl⟩))
          go_ret
          exact ⟨ret_i64 (by rw [HQ.out, HR0.out, Nat.add_zero, HRW.out]), 0, rfl⟩
        · have hrz : ((r : Int) == 0) = false := by simpa using hr0
          have hqlt := HLT.out hr0
          obtain ⟨b, o, rfl, hs⟩ := hA (by omega)
          have c1 := hs.word q hqlt
          have hxv := HV.out (xs.getD q 0) (by simp [List.getD, List.getElem?_eq_getElem hqlt])
          have HRQ := hid (rankN_word xs q r (by omega))
          have hpn := popN_low (xs.getD q 0) r (by omega)
          have HAND := hid (u64_and_nat (xs.getD q 0) (2 ^ r - 1) hxv (by have := pow_le_64 (show r ≤ 64 by omega); omega))
          have hxa : xs.getD q 0 &&& (2 ^ r - 1) < 18446744073709551616 := Nat.lt_of_le_of_lt Nat.and_le_left hxv
          have HCW := hid (fun w => countWord_any _ w hxa)
          have hple := L.popN_le r (xs.getD q 0)
          rw [hpn] at HCW
          generalize xs.getD q 0 &&& (2 ^ r - 1) = xa at *
          generalize L.popN r (xs.getD q 0) = pw at *
          generalize xs.getD q 0 = x at *
          have HL := hid (fun w => lowBits_any r w (by omega))
          generalize 2 ^ r - 1 = lo at *
          clear hs hA hr0 hxv hpn hxa
          have hpl : pc ≤ 4194304 := by have := HPL.out; rw [List.length_take] at this; omega
          go_wp2_with (first | (go_at_call 92; refine H.out.mono ?_; rintro e w' ⟨rfl, rfl⟩) | (go_at_call 93; refine HC.out.mono ?_; rintro e w' ⟨rfl, rfl⟩))
          go_quiet (first | (go_at_call 95; exact Calls.quiet_of_same (HL.out _)) | (go_at_call 94; try rw [HAND.out]; exact Calls.quiet_of_same (HCW.out _)))
          go_wp2
          go_ret
          refine ⟨ret_i64 ?_, _, rfl⟩
          rw [HQ.out, HRQ.out, HRW.out]
          go_num
end Go.Proofs.YtdlkdiaobbakiaaGreatDoor
