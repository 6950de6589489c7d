/- Package bitvec's Compare. -/
import Derived.Test.YthonbfojpbfmgaaGreatDoorLawfolduptoB3
import Derived.Test.YthonbfojpbfmgaaGreatDoorLawfolduptoB5
import Derived.Deep.RegionHeld3
import Derived.Deep.CutRange
import Derived.Test.YthonbfojpbfmgaaGreatDoorLawfolduptoB4
import Derived.Test.YthonbfojpbfmgaaGreatDoorLawfolduptoB1
set_option linter.unusedVariables false
set_option linter.unusedSimpArgs false
set_option linter.unnecessarySimpa false
set_option maxRecDepth 20000
namespace Go.Proofs.YthonbfojpbfmgaaGreatDoor
open Go.RowKit

theorem wordOf_ones (m : Nat) : L.wordOf 1 (List.replicate m 1) = 2 ^ m - 1 := by
  induction m with
  | zero => simp [L.wordOf]
  | succ m ih =>
    rw [List.replicate_succ', L.wordOf_snoc, ih, List.length_replicate, Nat.one_mul, Nat.one_mul, Nat.pow_succ]
    have : 0 < 2 ^ m := Nat.pow_pos (by omega)
    omega
theorem bmL_rep_get (n k : Nat) (b : Bool) (hk : k < L.nWords 1 n) : (bmL (List.replicate n b)).getD k 0 = if b then 2 ^ L.inWord 1 n k - 1 else 0 := by
  unfold bmL
  rw [List.map_replicate, L.packL_get 1 _ k (by simpa using hk), List.drop_replicate, List.take_replicate, wordOf_rep]
  have e : min (64 / 1) (n - k * (64 / 1)) = L.inWord 1 n k := rfl
  rw [e, wordOf_ones]
  cases b <;> simp
theorem bmL_rep_false (n : Nat) : bmL (List.replicate n false) = List.replicate (L.nWords 1 n) 0 := by
  apply L.ext_getD
  · rw [bmL_len]; simp
  · intro k hk
    rw [bmL_len, List.length_replicate] at hk
    rw [bmL_rep_get n k false hk, rep_getD]; simp
set_option maxHeartbeats 1000000 in
theorem uniform_any (n : Nat) (b : Bool) (w : World) (hn : n ≤ 65536) :
    Calls Tryz.prog 89 #[.int .i64 n, .bool b] w fun e w' => e = .returned (.slice (some ⟨w.heap.size, 0, none⟩) (L.nWords 1 n) (L.nWords 1 n)) ∧
      Row w' w.heap.size 40 (u64s (bmL (List.replicate n b))) ∧ Below w.heap.size w w' ∧ w'.heap.size = w.heap.size + 1 := by
  have hml := L.nWords_le (w := 1) (n := n) (by omega)
  have HBW := hid (bitWords_any n w hn)
  have HGET : Hid (∀ k, k < L.nWords 1 n → (bmL (List.replicate n true)).getD k 0 = 2 ^ L.inWord 1 n k - 1) := fun k hk => by rw [bmL_rep_get n k true hk]; rfl
  have HLEN : Hid ((bmL (List.replicate n true)).length = L.nWords 1 n) := by refine hid ?_; rw [bmL_len]; simp
  have HFALSE := hid (bmL_rep_false n)
  have HLT : Hid (∀ k, k < L.nWords 1 n → k * 64 < n) := fun k hk => by have := (L.lt_nWords (w := 1) (by omega) (by omega)).1 hk; omega
  generalize L.nWords 1 n = m at *
  cases b
  · go_enter Tryz.func89, Tryz.ntmps89
    go_wp2_with (go_at_call 91; refine HBW.out.mono ?_; rintro e w' ⟨rfl, rfl⟩)
    refine upon_make 40 (.int .u64 0) 8 Tryz.underlying28 Tryz.info45 rfl m (by omega) (by omega) (by omega) (by unfold maxLen; omega) ?_
    intro w1 hrow hb1 hsz1
    have HZ1 := hid hsz1
    clear hsz1
    go_wp2
    go_ret
    refine ⟨rfl, ?_, hb1, HZ1.out⟩
    rw [HFALSE.out]
    have e : u64s (List.replicate m 0) = List.replicate m (.int .u64 0) := by simp [u64s, u64]
    rw [e]; exact hrow
  · go_enter Tryz.func89, Tryz.ntmps89
    go_wp2_with (go_at_call 91; refine HBW.out.mono ?_; rintro e w' ⟨rfl, rfl⟩)
    refine upon_make 40 (.int .u64 0) 8 Tryz.underlying28 Tryz.info45 rfl m (by omega) (by omega) (by omega) (by unfold maxLen; omega) ?_
    intro w1 hrow hb1 hsz1
    have HZ1 := hid hsz1
    clear hsz1
    go_wp2
    go_loopw [15] (fun i wr => ∃ k : Nat, k ≤ m ∧ i = .int .i64 k ∧ Row wr w'.heap.size 40 (u64s ((bmL (List.replicate n true)).take k) ++ List.replicate (m - k) (.int .u64 0)) ∧ Below w'.heap.size w' wr ∧ Hid (wr.heap.size = w'.heap.size + 1)) (fun i _ => m - (intOf i).toNat)
    case atStart => exact ⟨0, by omega, rfl, by simpa [u64s] using hrow, hb1, HZ1⟩
    case round =>
      obtain ⟨k, hk, rfl, hr, hb, hz⟩ := hrel
      clear hrow hb1 HZ1
      by_cases hlt : k < m
      · have hcell : wr.cell? ⟨w'.heap.size, k, none⟩ = some (.int .u64 0) := by
          rw [hr.cell]; exact get_fill _ _ _ _ (by simp [u64s, HLEN.out]; omega) (by omega)
        have hfr := hr.frozen k
        have HR := hid hr
        clear hr
        have hkn := HLT.out k hlt
        have hg := HGET.out k hlt
        obtain ⟨c, hc⟩ : ∃ c, L.inWord 1 n k = c := ⟨_, rfl⟩
        have hc64 : c ≤ 64 := by have := L.inWord_le 1 n k; omega
        rw [hc] at hg
        have HC := hid hc; have HG := hid hg
        clear hc hg
        obtain ⟨z, hzz⟩ : ∃ z, 2 ^ c - 1 = z := ⟨_, rfl⟩
        have HZZ := hid hzz
        clear hzz
        go_wp2_with (first
          | (go_at_call 93; refine (lanesInWord_any 1 n k c _ (by omega) (by omega) (by omega) (by omega) HC.out).mono ?_; rintro e w'' ⟨rfl, rfl⟩)
          | (go_at_call 68; refine (lowBits_any c _ (by omega)).mono ?_; rintro e w'' ⟨rfl, rfl⟩; rw [HZZ.out]))
        go_roundw
        case rel =>
          refine ⟨k + 1, by omega, by go_num, ?_, below_set hb _ _ _ (Nat.le_refl _), ?_⟩
          · have hs := HR.out.set k (.int .u64 (z : Int))
            rw [set_fill _ _ _ _ _ (by simp [u64s, HLEN.out]; omega) (by omega)] at hs
            have hlk : k < (bmL (List.replicate n true)).length := by rw [HLEN.out]; exact hlt
            rw [List.take_succ_eq_append_getElem hlk, u64s_append, ← Nat.sub_sub m k 1]
            have e : (bmL (List.replicate n true))[k] = z := by
              have := HG.out
              rw [HZZ.out] at this
              simpa [List.getD, List.getElem?_eq_getElem hlk] using this
            rw [e]
            exact hs
          · show _ = _; rw [← hz.out]; simp [World.setCell]
        case measure => simp [intOf]; omega
      · obtain rfl : k = m := by omega
        go_wp2
        go_ret
        refine ⟨rfl, ?_, hb, hz.out⟩
        rw [List.take_of_length_le (by rw [HLEN.out]; exact Nat.le_refl _), Nat.sub_self] at hr
        simpa using hr

theorem stands_far (op : Int) (a c : Nat) (h : a < c) : standsB op a c = standsB op 0 c := by
  unfold standsB
  have h1 : ¬ a = c := by omega
  have h2 : ¬ 0 = c := by omega
  have h3 : a ≤ c := by omega
  have h4 : 0 ≤ c := by omega
  have h5 : ¬ c < a := by omega
  have h6 : ¬ c < 0 := by omega
  have h7 : 0 < c := by omega
  have h8 : ¬ c ≤ a := by omega
  have h9 : ¬ c ≤ 0 := by omega
  simp [h1, h2, h3, h4, h5, h6, h7, h8, h9, h]
theorem cmp_uniform (wd n : Nat) (op : Int) (xs : List Nat) (c : Nat) (h : wd = 0 ∨ 2 ^ wd ≤ c) : (List.range n).map (cmpF wd op xs c) = List.replicate n (standsB op 0 c) := by
  apply List.eq_replicate_iff.2
  refine ⟨by simp, fun b hb => ?_⟩
  obtain ⟨i, _, rfl⟩ := List.mem_map.1 hb
  unfold cmpF
  rcases h with h | h
  · subst h; simp [L.laneOf]
  · exact stands_far op _ c (Nat.lt_of_lt_of_le (L.laneOf_lt wd xs i) h)

theorem shl_u64 (a q : Nat) (h : a * 2 ^ q < 18446744073709551616) : IntKind.u64.wrap ((a : Int) * 2 ^ q) = ((a * 2 ^ q : Nat) : Int) := wrap_shl a q h
theorem mul_u64 (a b : Nat) (h : a * b < 18446744073709551616) : IntKind.u64.wrap ((a : Int) * (b : Int)) = ((a * b : Nat) : Int) := by
  have e : ((a : Int) * (b : Int)) = ((a * b : Nat) : Int) := by simp
  rw [e, wrap_u64_nat _ h]

set_option maxHeartbeats 4000000 in
theorem Compare_any (v : Value) (xs : List Nat) (wd n op : Int) (c : Nat) (w : World) (ht : Tab w) (hx : Rd w v xs.length 1 (u64s xs)) (hv : ∀ x ∈ xs, x < 18446744073709551616) (hc : c < 18446744073709551616) (hl : xs.length ≤ maxLen) :
    Calls Tryz.prog 52 #[v, .int .i64 wd, .int .i64 n, .int .i64 op, .int .u64 c] w fun e w' => ∃ r, e = .returned (.tuple #[r, .bool (cmpOk wd n op xs)]) ∧
      w'.ownsRow w.heap.size 40 1 r (cmpR wd n op xs c).length (u64s (cmpR wd n op xs c)) ∧ Below w.heap.size w w' := by
  have HISP := hid (isPacking_any v xs wd n w hx hv hl)
  have HREL := hid (isRelation_any op w)
  unfold maxLen at hl
  obtain ⟨A, ca, rfl, hlc, hcm, hA⟩ := hx.form
  have HX := hid hx
  clear hx hlc hcm
  cases hrel : isRel op
  · have hno : cmpOk wd n op xs = false := by simp [cmpOk, hrel]
    have hf : cmpR wd n op xs c = [] := by rw [cmpR, hno]; rfl
    have HNO := hid hno; have HF := hid hf
    rw [hrel] at HREL
    clear hno hf hrel
    go_enter Tryz.func52, Tryz.ntmps52
    go_wp2_with (go_at_call 87; refine HREL.out.mono ?_; rintro e w' ⟨rfl, rfl⟩)
    go_ret2
    exact ⟨.slice none 0 0, by rw [HNO.out]; rfl, by rw [HF.out]; exact World.ownsRow_nil _ _ _ _, Below.refl _ _⟩
  · rw [hrel] at HREL
    cases hok : okPack wd n xs
    · have hno : cmpOk wd n op xs = false := by simp [cmpOk, hok]
      have hf : cmpR wd n op xs c = [] := by rw [cmpR, hno]; rfl
      have HNO := hid hno; have HF := hid hf
      rw [hok] at HISP
      clear hno hf hrel hok
      go_enter Tryz.func52, Tryz.ntmps52
      go_wp2_with (first
        | (go_at_call 87; refine HREL.out.mono ?_; rintro e w' ⟨rfl, rfl⟩)
        | (go_at_call 88; refine HISP.out.mono ?_; rintro e w' ⟨rfl, rfl⟩))
      go_ret2
      exact ⟨.slice none 0 0, by rw [HNO.out]; rfl, by rw [HF.out]; exact World.ownsRow_nil _ _ _ _, Below.refl _ _⟩
    · have hin : 0 ≤ wd ∧ wd ≤ 64 ∧ 0 ≤ n ∧ n ≤ 65536 := by
        have := hok; simp only [okPack, okLim, Bool.and_eq_true, decide_eq_true_eq] at this; exact this.1
      obtain ⟨wd, rfl⟩ := Int.eq_ofNat_of_zero_le hin.1
      obtain ⟨n, rfl⟩ := Int.eq_ofNat_of_zero_le hin.2.2.1
      have hwd : wd ≤ 64 := by omega
      have hn : n ≤ 65536 := by omega
      have HIP := hid ((okPack_nat xs hwd hn).1 hok)
      have hyes : cmpOk (wd : Int) (n : Int) op xs = true := by simp [cmpOk, hok, hrel]
      have hf : cmpR (wd : Int) (n : Int) op xs c = bmL ((List.range n).map (cmpF wd op xs c)) := by rw [cmpR, hyes]; rfl
      have HYES := hid hyes; have HF := hid hf
      rw [hok] at HISP
      clear hyes hf hrel hok hin
      by_cases hu : wd = 0 ∨ 2 ^ wd ≤ c
      · have HU := hid (cmp_uniform wd n op xs c hu)
        have h2 : 0 < 2 ^ wd := Nat.pow_pos (by omega)
        have HUNI := hid (uniform_any n (standsB op 0 c) w hn)
        have hml := L.nWords_le (w := 1) (n := n) (by omega)
        have e0 : (bmL (List.replicate n (standsB op 0 c))).length = L.nWords 1 n := by rw [bmL_len]; simp
        have fin : ∀ w2, Row w2 w.heap.size 40 (u64s (bmL (List.replicate n (standsB op 0 c)))) → Below w.heap.size w w2 →
            ∃ r, Ending.returned (.tuple #[.slice (some ⟨w.heap.size, 0, none⟩) (L.nWords 1 n) (L.nWords 1 n), .bool true]) = .returned (.tuple #[r, .bool (cmpOk (wd : Int) (n : Int) op xs)]) ∧
              w2.ownsRow w.heap.size 40 1 r (cmpR (wd : Int) (n : Int) op xs c).length (u64s (cmpR (wd : Int) (n : Int) op xs c)) ∧ Below w.heap.size w w2 := by
          intro w2 hr2 hb2
          refine ⟨.slice (some ⟨w.heap.size, 0, none⟩) (L.nWords 1 n) (L.nWords 1 n), by rw [HYES.out], ?_, hb2⟩
          rw [HF.out, HU.out, e0]
          exact Row.owns hr2 (Nat.le_refl _) (by rw [u64s_length, e0]) (by unfold maxLen; omega)
        clear e0
        rcases Nat.eq_zero_or_pos wd with hz | hz
        · subst hz
          clear hu
          go_enter Tryz.func52, Tryz.ntmps52
          go_wp2_with (first
            | (go_at_call 87; refine HREL.out.mono ?_; rintro e w' ⟨rfl, rfl⟩)
            | (go_at_call 88; refine HISP.out.mono ?_; rintro e w' ⟨rfl, rfl⟩)
            | (go_at_call 90; refine (standsIn_any 0 op c _).mono ?_; rintro e w' ⟨rfl, rfl⟩)
            | (go_at_call 89; refine HUNI.out.mono ?_; rintro e w2 ⟨rfl, hr2, hb2, _⟩))
          go_ret2
          exact fin _ hr2 hb2
        · have hwz : ((wd : Int) == 0) = false := by simpa using (show wd ≠ 0 by omega)
          have hzc : 2 ^ wd - 1 < c := by rcases hu with h | h <;> omega
          generalize hzz : 2 ^ wd - 1 = z at *
          have HZZ := hid hzz
          clear hu h2 hzz
          go_enter Tryz.func52, Tryz.ntmps52
          go_wp2_with (first
            | (go_at_call 87; refine HREL.out.mono ?_; rintro e w' ⟨rfl, rfl⟩)
            | (go_at_call 88; refine HISP.out.mono ?_; rintro e w' ⟨rfl, rfl⟩)
            | (go_at_call 68; refine (lowBits_any wd _ (by omega)).mono ?_; rintro e w' ⟨rfl, rfl⟩; rw [HZZ.out])
            | (go_at_call 90; refine (standsIn_any 0 op c _).mono ?_; rintro e w' ⟨rfl, rfl⟩)
            | (go_at_call 89; refine HUNI.out.mono ?_; rintro e w2 ⟨rfl, hr2, hb2, _⟩))
          go_ret2
          exact fin _ hr2 hb2
      · have hw0 : 0 < wd := by omega
        have hcw : c < 2 ^ wd := by omega
        have hwz : ((wd : Int) == 0) = false := by simpa using (show wd ≠ 0 by omega)
        have hcz : c ≤ 2 ^ wd - 1 := by omega
        obtain ⟨p, hp⟩ : ∃ p, 64 / wd = p := ⟨_, rfl⟩
        have hpw : p * wd ≤ 64 := by rw [← hp]; exact L.per_mul wd
        have h1w : (1 : Nat) < 2 ^ wd := Nat.one_lt_two_pow (by omega)
        obtain ⟨q, rfl⟩ : ∃ q, wd = q + 1 := ⟨wd - 1, by omega⟩
        have hqq : (((q + 1 : Nat) : Int)) - 1 = (q : Int) := by omega
        have hqp : 2 ^ q < 2 ^ (q + 1) := Nat.pow_lt_pow_right (by omega) (by omega)
        have hones := wordOf_lt64 (q + 1) p (List.replicate p 1) (by simp) (rep_lt h1w) hpw
        have htops := wordOf_lt64 (q + 1) p (List.replicate p (2 ^ q)) (by simp) (rep_lt hqp) hpw
        have hspr := wordOf_lt64 (q + 1) p (List.replicate p c) (by simp) (rep_lt hcw) hpw
        have e1 : L.wordOf (q + 1) (List.replicate p 1) * 2 ^ q = L.wordOf (q + 1) (List.replicate p (2 ^ q)) := by rw [wordOf_rep (q + 1) p (2 ^ q), Nat.mul_comm]
        have e2 : L.wordOf (q + 1) (List.replicate p 1) * c = L.wordOf (q + 1) (List.replicate p c) := by rw [wordOf_rep (q + 1) p c, Nat.mul_comm]
        have HEL := hid (everyLane_any (q + 1) p w hw0 hwd hp)
        have HBW := hid (bitWords_any n w hn)
        have hsh := shl_u64 (L.wordOf (q + 1) (List.replicate p 1)) q (by rw [e1]; exact htops)
        have hmu := mul_u64 (L.wordOf (q + 1) (List.replicate p 1)) c (by rw [e2]; exact hspr)
        rw [e1] at hsh
        rw [e2] at hmu
        generalize hzz : 2 ^ (q + 1) - 1 = z at *
        have HZZ := hid hzz; have HP := hid hp; have HH1 := hid hones; have HH2 := hid htops; have HH3 := hid hspr
        have hml := L.nWords_le (w := 1) (n := n) (by omega)
        clear hu hzz hp hones htops hspr e1 e2 h1w hqp
        generalize hO : L.wordOf (q + 1) (List.replicate p 1) = O at *
        generalize hT : L.wordOf (q + 1) (List.replicate p (2 ^ q)) = T at *
        generalize hS : L.wordOf (q + 1) (List.replicate p c) = S at *
        have HO := hid hO; have HTT := hid hT; have HS := hid hS
        clear hO hT hS
        generalize hmm : L.nWords 1 n = m at *
        have HMM := hid hmm
        clear hmm
        generalize hwq : q + 1 = wd at *
        have HWQ := hid hwq
        clear hwq
        go_enter Tryz.func52, Tryz.ntmps52
        go_wp2_with (first
          | (go_at_call 87; refine HREL.out.mono ?_; rintro e w' ⟨rfl, rfl⟩)
          | (go_at_call 88; refine HISP.out.mono ?_; rintro e w' ⟨rfl, rfl⟩)
          | (go_at_call 68; refine (lowBits_any wd _ (by omega)).mono ?_; rintro e w' ⟨rfl, rfl⟩; rw [HZZ.out])
          | (go_at_call 91; refine HBW.out.mono ?_; rintro e w' ⟨rfl, rfl⟩))
        refine upon_make 40 (.int .u64 0) 8 Tryz.underlying28 Tryz.info45 rfl m (by omega) (by omega) (by omega) (by unfold maxLen; omega) ?_
        intro w1 hrow hb1 hsz1
        have HZ1 := hid hsz1
        clear hsz1
        go_wp2_with fail
        refine (everyLane_any wd p _ hw0 hwd HP.out).mono ?_
        rintro e w1' ⟨rfl, rfl⟩
        rw [HO.out]
        go_wp2_with fail
        have hgt : 0 < w'.heap.size := ht.lt
        have HT := hid ht
        go_loopw [58] (fun i wr => ∃ (k : Nat) (zs : List Nat), k ≤ xs.length ∧ i = .int .i64 k ∧ Row wr w'.heap.size 40 (u64s zs) ∧ zs.length = m ∧ (∀ x ∈ zs, x < 18446744073709551616) ∧
            (∀ j, bitOf zs j = (decide (j < k * p ∧ j < n) && cmpF wd op xs c j)) ∧ Below w'.heap.size w' wr ∧ Hid (wr.heap.size = w'.heap.size + 1)) (fun i _ => xs.length - (intOf i).toNat)
        case atStart =>
          refine ⟨0, List.replicate m 0, by omega, rfl, by simpa [u64s, u64] using hrow, by simp, rep_lt (by omega), fun j => ?_, hb1, HZ1⟩
          have : bitOf (List.replicate m 0) j = false := by
            unfold bitOf; rw [rep_getD]; split <;> simp
          rw [this]; simp
        case round =>
          obtain ⟨k, zs, hk, rfl, hr, hzl, hzv, hzb, hb, hz⟩ := hrel
          clear hrow hb1 HZ1 ht
          have HR := hid hr; have HZL := hid hzl; have HZV := hid hzv; have HZB := hid hzb
          clear hr hzl hzv hzb
          by_cases hlt : k < xs.length
          · obtain ⟨b, o, rfl, hs⟩ := hA (by omega)
            have c1 := (hs.mono (hb.mono (Nat.le_refl _))).word k hlt
            have hxk := hv (xs.getD k 0) (by simp [List.getD, List.getElem?_eq_getElem hlt])
            have hkp : k * (64 / wd) < n := (L.lt_nWords hw0 hwd).1 (by rw [← HIP.out.1]; exact hlt)
            obtain ⟨cn, hcn⟩ : ∃ cn, L.inWord wd n k = cn := ⟨_, rfl⟩
            have hxl := HIP.out.2 k hlt
            rw [hcn] at hxl
            have hcp : cn ≤ p := by rw [← hcn, ← HP.out]; exact Nat.min_le_left _ _
            have hcw2 : cn * wd ≤ 64 := by rw [← hcn]; exact L.inWord_le wd n k
            have HKP := hid hkp; have HCN := hid hcn
            have hcn2 : cn = min p (n - k * p) := by rw [← hcn, L.inWord, HP.out]
            rw [HP.out] at hkp
            obtain ⟨fst, hfst⟩ : ∃ fst, k * p = fst := ⟨_, rfl⟩
            have hf' : (k : Int) * (p : Int) = (fst : Int) := by rw [← hfst]; simp
            rw [hfst] at hkp hcn2
            obtain ⟨u, hu⟩ : ∃ u, cn * wd = u := ⟨_, rfl⟩
            have hu' : (cn : Int) * (wd : Int) = (u : Int) := by rw [← hu]; simp
            have hu64 : u ≤ 64 := by omega
            have HU := hid hu; have HFST := hid hfst; have HCN2 := hid hcn2
            have HXP : Hid (L.wordOf wd ((List.range p).map fun j => xs.getD k 0 / 2 ^ (j * wd) % 2 ^ wd) = xs.getD k 0) :=
              L.wordOf_lanes wd p (xs.getD k 0) (Nat.lt_of_lt_of_le hxl (Nat.pow_le_pow_right (by omega) (Nat.mul_le_mul_right wd hcp)))
            have HXV : Hid (∀ x ∈ (List.range p).map fun j => xs.getD k 0 / 2 ^ (j * wd) % 2 ^ wd, x < 2 ^ wd) := by
              intro x hx; obtain ⟨j, _, rfl⟩ := List.mem_map.1 hx; exact Nat.mod_lt _ (Nat.pow_pos (by omega))
            have HLN : Hid (∀ j, j < p → cmpF wd op xs c (k * p + j) = standsB op (xs.getD k 0 / 2 ^ (j * wd) % 2 ^ wd) c) := by
              intro j hj
              have e1 : (k * p + j) / p = k := by rw [Nat.mul_comm k p, Nat.mul_add_div (by omega), Nat.div_eq_of_lt hj, Nat.add_zero]
              have e2 : (k * p + j) % p = j := by rw [Nat.mul_comm k p, Nat.mul_add_mod, Nat.mod_eq_of_lt hj]
              simp only [cmpF, L.laneOf, show wd ≠ 0 from by omega, if_false, HP.out, e1, e2]
            clear hs hA hcn hfst hu hcn2 hxl
            generalize hxx : xs.getD k 0 = x at *
            clear hxx
            have hla : ((List.range p).map fun j => x / 2 ^ (j * wd) % 2 ^ wd).length = p := by simp
            have hlb : (List.replicate p c).length = p := by simp
            have hxvb := rep_lt (n := p) hcw
            have HIT : Hid (∀ i, hitAt wd fst (cmpN op x S T &&& (2 ^ u - 1)) i = (decide (fst ≤ i ∧ i < fst + cn) && cmpF wd op xs c i)) := by
              intro i
              have h1 := hits_at (w := q) op cn fst i hla hlb (by rw [HWQ.out]; exact HXV.out) (by rw [HWQ.out]; exact hxvb) (by rw [HWQ.out]; exact hpw) hcp
              rw [HWQ.out, HXP.out, HS.out, HTT.out, HU.out] at h1
              rw [h1]
              by_cases hi : fst ≤ i ∧ i < fst + cn
              · have hj : i - fst < p := by omega
                have h2 := HLN.out (i - fst) hj
                rw [HFST.out, show fst + (i - fst) = i from by omega] at h2
                have h3 : ((List.range p).map fun j => x / 2 ^ (j * wd) % 2 ^ wd).getD (i - fst) 0 = x / 2 ^ ((i - fst) * wd) % 2 ^ wd := by
                  simp [List.getD, List.getElem?_range hj]
                rw [h2, h3, rep_getD, if_pos hj]
              · rw [decide_eq_false hi, Bool.false_and, Bool.false_and]
            have hn1 := (L.notLess (w := q) hla hlb (by rw [HWQ.out]; exact HXV.out) (by rw [HWQ.out]; exact hxvb) (by rw [HWQ.out]; exact hpw)).1
            have hn2 := (L.notLess (w := q) hlb hla (by rw [HWQ.out]; exact hxvb) (by rw [HWQ.out]; exact HXV.out) (by rw [HWQ.out]; exact hpw)).1
            rw [HWQ.out, HXP.out, HS.out, HTT.out] at hn1 hn2
            have HCW := hid (compareWord_any x S T op wr hxk HH3.out HH2.out hn1 hn2)
            have hX64 : cmpN op x S T < 18446744073709551616 := by
              have h1 := lessN_lt x S T HH2.out
              have h2 := lessN_lt S x T HH2.out
              unfold cmpN
              split
              · exact and_lt64 _ HH2.out
              · split
                · exact or_lt64 h1 h2
                · split
                  · exact h1
                  · split
                    · exact and_lt64 _ HH2.out
                    · split
                      · exact h2
                      · exact and_lt64 _ HH2.out
            have hZ64 : 2 ^ u - 1 < 18446744073709551616 := by have := pow_le_64 hu64; have : 0 < 2 ^ u := Nat.pow_pos (by omega); omega
            have hand := u64_and_nat _ _ hX64 hZ64
            have HFIT : Hid (∀ b, (cmpN op x S T &&& (2 ^ u - 1)).testBit b = true → fst + b / wd < 64 * m) := by
              intro b hb
              rw [Nat.testBit_and, Nat.testBit_two_pow_sub_one] at hb
              simp only [Bool.and_eq_true, decide_eq_true_eq] at hb
              have h1 : b / wd < cn := Nat.div_lt_of_lt_mul (by rw [Nat.mul_comm, HU.out]; exact hb.2)
              have h2 := nWords1_le n
              rw [HMM.out] at h2
              have h3 := HCN2.out
              generalize b / wd = e at *
              omega
            have HH4 := hid (and_lt64 (2 ^ u - 1) hX64)
            clear hn1 hn2 hla hlb hxvb hX64 hZ64
            generalize hXX : cmpN op x S T = X at *
            generalize hZ2 : 2 ^ u - 1 = Z2 at *
            have HZ2 := hid hZ2
            generalize hHH : X &&& Z2 = H at *
            have HXA := hid HXV
            clear hXX hZ2 hHH HXP HXV HXA
            go_wp2_with (first
              | (go_at_call 93; refine (lanesInWord_any _ _ _ cn _ (by omega) (by omega) (by omega) (Nat.le_of_lt HKP.out) HCN.out).mono ?_; rintro e w'' ⟨rfl, rfl⟩)
              | (go_at_call 68; refine (lowBits_any u _ (by omega)).mono ?_; rintro e w'' ⟨rfl, rfl⟩; rw [HZ2.out])
              | (go_at_call 94; refine HCW.out.mono ?_; rintro e w'' ⟨rfl, rfl⟩)
              | (go_at_call 96; refine (lanesPerWord_any _ p _ (by omega) (by omega) HP.out).mono ?_; rintro e w'' ⟨rfl, rfl⟩)
              | (go_at_call 95; refine (markLanes_any _ m m fst wd H zs _ (HT.out.mono hb hgt) hgt HR.out HZL.out (Nat.le_refl _) (by omega) HZV.out hw0 hwd HH4.out (by omega) HFIT.out).mono ?_; rintro e w2 ⟨rfl, ⟨zs2, hr2, hl2, hv2, hb2⟩, hbb2, hs2⟩; have HB2 := hid hb2; have HR2 := hid hr2; have HL2 := hid hl2; have HV2 := hid hv2; have HS2 := hid hs2; clear hb2 hr2 hl2 hv2 hs2))
            go_roundw
            case rel =>
              refine ⟨k + 1, zs2, by omega, by go_num, HR2.out, HL2.out, HV2.out, fun j => ?_, hb.trans hbb2, ?_⟩
              · rw [HB2.out j, HZB.out j, HIT.out j, HFST.out, Nat.succ_mul, HFST.out]
                have h3 := HCN2.out
                by_cases h1 : j < fst ∧ j < n
                · have h2 : j < fst + p ∧ j < n := by omega
                  have h4 : ¬ (fst ≤ j ∧ j < fst + cn) := by omega
                  simp [h1, h2, h4]
                · by_cases h2 : fst ≤ j ∧ j < fst + cn
                  · have h4 : j < fst + p ∧ j < n := by omega
                    simp [h1, h2, h4]
                  · have h4 : ¬ (j < fst + p ∧ j < n) := by omega
                    rw [decide_eq_false h1, decide_eq_false h2, decide_eq_false h4]; simp
              · show _ = _; rw [HS2.out]; exact hz.out
            case measure => simp [intOf]; omega
          · obtain rfl : k = xs.length := by omega
            go_wp2
            go_ret2
            have hge : n ≤ xs.length * p := by
              have h1 := (L.lt_nWords (n := n) (k := xs.length) hw0 hwd).2
              rw [← HIP.out.1, HP.out] at h1
              rcases Nat.lt_or_ge (xs.length * p) n with h2 | h2
              · have := h1 h2; omega
              · exact h2
            have hbm : IsBm n zs (cmpF wd op xs c) := by
              refine ⟨by rw [HZL.out, HMM.out], HZV.out, fun i _ => ?_⟩
              rw [HZB.out i]
              congr 1
              rw [decide_eq_decide]; omega
            have heq := hbm.eq_bmL
            refine ⟨.slice (some ⟨w'.heap.size, 0, none⟩) m m, by rw [HYES.out]; rfl, ?_, hb⟩
            rw [HF.out, ← heq, HZL.out]
            exact Row.owns HR.out (Nat.le_refl _) (by rw [u64s_length, HZL.out]) (by unfold maxLen; omega)
end Go.Proofs.YthonbfojpbfmgaaGreatDoor

/- Package chunk: what readLanes asks. -/
set_option maxRecDepth 512
set_option linter.unusedVariables false
namespace Go.Proofs.YthonbfojpbfmgaaGreatDoor
open Go.RowKit
/-- do the lanes pack, and stands none of them in the relation op to lim? -/
def lanesB (wd k op : Int) (ws : List Nat) (lim : Nat) : Bool := cmpOk wd k op ws && (rankR k k (cmpR wd k op ws lim) == 0)
def nilS : Value := .slice none 0 0
theorem rd_left_I (c : Nat) (xs : List Nat) (s : Bool) : (rdI c xs s).2.2.1.length ≤ xs.length ∧ ∀ B, (∀ x ∈ xs, x < B) → ∀ x ∈ (rdI c xs s).2.2.1, x < B := by
  unfold rdI
  exact ⟨tkL_le _ _, fun B h => tkL_lt h⟩
theorem rd_len_I (c : Nat) (xs : List Nat) (s : Bool) (hl : xs.length ≤ 16777216) : (rdI c xs s).1.length ≤ 16777216 := by
  unfold rdI
  simp only [List.length_map, numL_length]
  unfold tk; split
  · rw [List.length_take]; omega
  · simp

def lstI (xs : List Int) : List Value := i64s xs
def lstS (xs : List ByteArray) : List Value := strs xs
def vI (x : Int) : Value := .int .i64 x
def vS (x : ByteArray) : Value := .string x
def dfI : Int := 0
def dfS : ByteArray := default
theorem lstI_get (xs : List Int) (i : Nat) (h : i < xs.length) : (lstI xs)[i]? = some (vI (xs.getD i dfI)) := i64s_get xs i h
theorem lstS_get (xs : List ByteArray) (i : Nat) (h : i < xs.length) : (lstS xs)[i]? = some (vS (xs.getD i dfS)) := strs_get xs i h
theorem rd_left_S (c : Nat) (xs : List Nat) (s : Bool) : (rdS c xs s).2.2.1.length ≤ xs.length ∧ ∀ B, (∀ x ∈ xs, x < B) → ∀ x ∈ (rdS c xs s).2.2.1, x < B := by
  unfold rdS
  simp only
  split
  · exact ⟨tkL_le _ _, fun B h => tkL_lt h⟩
  · split
    · exact ⟨Nat.le_trans (tkL_le _ _) (tkL_le _ _), fun B h => tkL_lt (tkL_lt h)⟩
    · exact ⟨Nat.le_trans (tkL_le _ _) (tkL_le _ _), fun B h => tkL_lt (tkL_lt h)⟩
theorem rd_len_S (c : Nat) (xs : List Nat) (s : Bool) (hl : xs.length ≤ 16777216) : (rdS c xs s).1.length ≤ 16777216 := by
  have h1 : (nI (numL 4 (tk (4 * c) xs))).length ≤ 16777216 := by
    rw [nI_length, numL_length]; unfold tk; split
    · rw [List.length_take]; omega
    · simp
  unfold rdS
  simp only
  split
  · simp
  · split
    · simp
    · rw [cutS_length]; exact h1
end Go.Proofs.YthonbfojpbfmgaaGreatDoor

/- Package chunk: a value of a chunk, by its codec. -/
set_option linter.unusedVariables false
set_option linter.unusedSimpArgs false
set_option linter.unnecessarySimpa false
set_option maxRecDepth 100000
namespace Go.Proofs.YthonbfojpbfmgaaGreatDoor
open Go.RowKit

/-- a chunk in memory that was looked through, with its lists -/
structure Ck_I (w : World) (g : Nat) (rows : Int) (codec wd : Nat) (nulls : List Nat) (count : Int) (list : List Int) (ends : List Nat) (base : Int) (lanes : List Nat) : Prop where
  ex : ∃ nu lv ev nv bef, Row w g 111 (ck_I rows codec wd nu count lv ev base nv (.iface 68 (.agg #[])) bef) ∧ Rd w nu nulls.length 1 (u64s nulls) ∧ Rd w lv list.length 1 (lstI list) ∧
    Rd w ev ends.length 1 (nIs ends) ∧ Rd w nv lanes.length 1 (u64s lanes) ∧ Rd w bef nulls.length 1 (i64s (befL nulls))
theorem Ck_I.mono {w w' : World} {g : Nat} {rows : Int} {codec wd : Nat} {nulls : List Nat} {count : Int} {list : List Int} {ends : List Nat} {base : Int} {lanes : List Nat} (h : Ck_I w g rows codec wd nulls count list ends base lanes) (hb : Below w.heap.size w w') :
    Ck_I w' g rows codec wd nulls count list ends base lanes := by
  obtain ⟨nu, lv, ev, nv, bef, h1, h2, h3, h4, h5, h6⟩ := h.ex
  exact ⟨nu, lv, ev, nv, bef, h1.mono hb, h2.mono hb, h3.mono hb, h4.mono hb, h5.mono hb, h6.mono hb⟩

/-- value number j -/
def val_I (codec wd : Nat) (list : List Int) (ends : List Nat) (lanes : List Nat) (j : Nat) : Int :=
  if codec = 1 then list.getD j dfI else if codec = 2 then list.getD (L.laneOf wd lanes j) dfI else list.getD (firstGe (nI ends) ((j : Int) + 1)) dfI
/-- where it can be asked -/
def ok_I (codec wd : Nat) (list : List Int) (ends : List Nat) (lanes : List Nat) (j : Nat) : Prop :=
  (codec = 1 ∧ j < list.length) ∨ (codec = 2 ∧ L.laneOf wd lanes j < list.length ∧ wd ≤ 64 ∧ (0 < wd → j / (64 / wd) < lanes.length)) ∨
    (codec = 3 ∧ firstGe (nI ends) ((j : Int) + 1) < list.length ∧ ∀ a b, a < b → b < (nI ends).length → (nI ends).getD a 0 < (nI ends).getD b 0)

set_option maxHeartbeats 2000000 in
theorem run_I (w : World) (g : Nat) (rows : Int) (codec wd : Nat) (nulls : List Nat) (count : Int) (list : List Int) (ends : List Nat) (base : Int) (lanes : List Nat) (j : Nat)
    (h : Ck_I w g rows codec wd nulls count list ends base lanes) (hel : ends.length ≤ 16777216) (hj : j ≤ 65536) (hup : ∀ a b, a < b → b < (nI ends).length → (nI ends).getD a 0 < (nI ends).getD b 0) :
    Calls Tryz.prog 172 #[.pointer (some ⟨g, 0, none⟩), .int .i64 j] w fun e w' => e = .returned (.int .i64 (firstGe (nI ends) ((j : Int) + 1) : Nat)) ∧ ∃ n, w' = w.drewN n := by
  obtain ⟨nu, lv, ev, nv, bef, h1, h2, h3, h4, h5, h6⟩ := h.ex
  have HB := hid (BinarySearch_any ev (nI ends) ((j : Int) + 1) w (by rw [nI_length]; exact h4) (by rw [nI_length]; exact hel) hup)
  obtain ⟨A, c, rfl, _, _, _⟩ := h4.form
  have c6 : w.cell? ⟨g, 0 + 6, none⟩ = some (.slice A ends.length c) := by rw [h1.cell]; rfl
  clear h1 h2 h3 h4 h5 h6 h hup
  generalize firstGe (nI ends) ((j : Int) + 1) = r at *
  go_enter Tryz.func172, Tryz.ntmps172
  go_wp2_with fail
  refine HB.out.mono ?_
  rintro e w1 ⟨⟨b, rfl⟩, n, rfl⟩
  go_wp2_with fail
  go_ret
  exact ⟨rfl, n, rfl⟩

set_option maxHeartbeats 4000000 in
theorem Value123_I (w : World) (g : Nat) (rows : Int) (codec wd : Nat) (nulls : List Nat) (count : Int) (list : List Int) (ends : List Nat) (base : Int) (lanes : List Nat) (j : Nat)
    (h : Ck_I w g rows codec wd nulls count list ends base lanes) (hel : ends.length ≤ 16777216) (hll : list.length ≤ 16777216) (hnv : ∀ x ∈ lanes, x < 18446744073709551616) (hj : j ≤ 65536) (hok : ok_I codec wd list ends lanes j) :
    Calls Tryz.prog 130 #[.pointer (some ⟨g, 0, none⟩), .int .i64 j] w fun e w' => e = .returned (vI (val_I codec wd list ends lanes j)) ∧ Below w.heap.size w w' := by
  obtain ⟨nu, lv, ev, nv, bef, h1, h2, h3, h4, h5, h6⟩ := h.ex
  obtain ⟨A, c, rfl, hlc, hcm, hA⟩ := h3.form
  have c1 : w.cell? ⟨g, 0 + 1, none⟩ = some (.int .i64 codec) := by rw [h1.cell]; rfl
  have c5 : w.cell? ⟨g, 0 + 5, none⟩ = some (.slice A list.length c) := by rw [h1.cell]; rfl
  have c5' : w.cell? ⟨g, 5, none⟩ = some (.slice A list.length c) := by rw [h1.cell]; rfl
  rcases hok with ⟨rfl, hlt⟩ | ⟨rfl, hlt, hw, hin⟩ | ⟨rfl, hlt, hup⟩
  · obtain ⟨b, o, rfl, hs⟩ := hA (by omega)
    have d1 : w.cell? ⟨b, o + j, none⟩ = some (vI (list.getD j dfI)) := hs _ _ (lstI_get list j hlt)
    have hv : val_I 1 wd list ends lanes j = list.getD j dfI := by unfold val_I; rw [if_pos rfl]
    rw [hv]
    unfold vI at d1 ⊢
    clear h1 h2 h3 h4 h5 h6 h hs hA c5' hv
    generalize list.getD j dfI = x at *
    go_enter Tryz.func130, Tryz.ntmps130
    go_wp2
    go_ret
    exact ⟨rfl, brefl w⟩
  · have hv : val_I 2 wd list ends lanes j = list.getD (L.laneOf wd lanes j) dfI := by unfold val_I; rw [if_neg (by omega), if_pos rfl]
    rw [hv]
    have HLN := hid (fun n : Nat => lane_I (w.drewN n) g rows (2 : Nat) wd nu count (.slice A list.length c) ev base nv _ bef lanes j (h1.drewN n) (h5.mono (bdrew (brefl w) n)) hnv hw hj hin)
    generalize L.laneOf wd lanes j = r at *
    obtain ⟨b, o, rfl, hs⟩ := hA (Nat.lt_of_le_of_lt (Nat.zero_le _) hlt)
    have d1 : w.cell? ⟨b, o + r, none⟩ = some (vI (list.getD r dfI)) := hs _ _ (lstI_get list r hlt)
    unfold vI at d1 ⊢
    have hri : (r : Int) < (list.length : Int) := by omega
    clear h1 h2 h3 h4 h5 h6 h hs hA hv hin c5
    generalize list.getD r dfI = x at *
    go_enter Tryz.func130, Tryz.ntmps130
    go_wp2_with fail
    go_quiet (first | (go_at_call 169; refine Calls.quiet_of (HLN.out _)))
    go_wp2_with fail
    go_ret
    exact ⟨rfl, bdrew (brefl w) _⟩
  · have hv : val_I 3 wd list ends lanes j = list.getD (firstGe (nI ends) ((j : Int) + 1)) dfI := by unfold val_I; rw [if_neg (by omega), if_neg (by omega)]
    rw [hv]
    have HRN := hid (fun n : Nat => run_I (w.drewN n) g rows 3 wd nulls count list ends base lanes j (h.mono (bdrew (brefl w) n)) hel hj hup)
    generalize firstGe (nI ends) ((j : Int) + 1) = r at *
    obtain ⟨b, o, rfl, hs⟩ := hA (Nat.lt_of_le_of_lt (Nat.zero_le _) hlt)
    have d1 : w.cell? ⟨b, o + r, none⟩ = some (vI (list.getD r dfI)) := hs _ _ (lstI_get list r hlt)
    unfold vI at d1 ⊢
    have hri : (r : Int) < (list.length : Int) := by omega
    clear h1 h2 h3 h4 h5 h6 h hs hA hv hup c5
    generalize list.getD r dfI = x at *
    go_enter Tryz.func130, Tryz.ntmps130
    go_wp2_with fail
    go_quiet (first | (go_at_call 172; refine Calls.quiet_of (HRN.out _)))
    go_wp2_with fail
    go_ret
    exact ⟨rfl, bdrew (brefl w) _⟩
end Go.Proofs.YthonbfojpbfmgaaGreatDoor

/- Package chunk: the kinds' own methods over cells. -/
set_option linter.unusedVariables false
set_option linter.unusedSimpArgs false
set_option linter.unnecessarySimpa false
set_option maxRecDepth 100000
namespace Go.Proofs.YthonbfojpbfmgaaGreatDoor
open Go.RowKit

def cellI (x : Int) : List Value := [.bool false, .int .i64 x, .string ByteArray.empty]
def cellS (x : ByteArray) : List Value := [.bool false, .int .i64 0, .string x]
def aggv (cs : List Value) : Value := .agg cs.toArray

theorem IntsNumber_any (w : World) : Calls Tryz.prog 272 #[.agg #[]] w fun e w' => e = .returned (.int .i64 1) ∧ Below w.heap.size w w' := by
  go_enter Tryz.func272, Tryz.ntmps272
  go_wp2
  go_ret
  exact ⟨rfl, (brefl w).alloc (Nat.le_refl _) _⟩
theorem StrsNumber_any (w : World) : Calls Tryz.prog 266 #[.agg #[]] w fun e w' => e = .returned (.int .i64 2) ∧ Below w.heap.size w w' := by
  go_enter Tryz.func266, Tryz.ntmps266
  go_wp2
  go_ret
  exact ⟨rfl, (brefl w).alloc (Nat.le_refl _) _⟩
theorem IntsCell_any (x : Int) (w : World) : Calls Tryz.prog 271 #[.agg #[], .int .i64 x] w fun e w' => e = .returned (aggv (cellI x)) ∧ Below w.heap.size w w' := by
  go_enter Tryz.func271, Tryz.ntmps271
  go_wp2
  refine bodyPost_ret (v := aggv (cellI x)) ?_ rfl ⟨rfl, ?_⟩
  · simp [results, Tryz.results271, go_sem]
    rfl
  · exact ((brefl w).alloc (Nat.le_refl _) _).alloc (by simp) _
theorem IntsValue_any (x : Int) (w : World) : Calls Tryz.prog 273 #[.agg #[], aggv (cellI x)] w fun e w' => e = .returned (.int .i64 x) ∧ Below w.heap.size w w' := by
  unfold aggv cellI
  go_enter Tryz.func273, Tryz.ntmps273
  go_wp2
  go_ret
  refine ⟨rfl, ((brefl w).alloc (Nat.le_refl _) _).alloc (by simp) _⟩
theorem StrsCell_any (x : ByteArray) (w : World) : Calls Tryz.prog 265 #[.agg #[], .string x] w fun e w' => e = .returned (aggv (cellS x)) ∧ Below w.heap.size w w' := by
  go_enter Tryz.func265, Tryz.ntmps265
  go_wp2
  refine bodyPost_ret (v := aggv (cellS x)) ?_ rfl ⟨rfl, ?_⟩
  · simp [results, Tryz.results265, go_sem]
    rfl
  · exact ((brefl w).alloc (Nat.le_refl _) _).alloc (by simp) _
theorem CellRaw_I (x : Int) (w : World) : Calls Tryz.prog 271 #[.agg #[], .int .i64 x] w fun e w' => e = .returned (.agg #[.bool false, .int .i64 x, .string ByteArray.empty]) ∧ Below w.heap.size w w' := IntsCell_any x w
theorem CellRaw_S (x : ByteArray) (w : World) : Calls Tryz.prog 265 #[.agg #[], .string x] w fun e w' => e = .returned (.agg #[.bool false, .int .i64 0, .string x]) ∧ Below w.heap.size w w' := StrsCell_any x w
theorem m_Cell_I : ∀ w : World, (method 386 68 (.agg #[]) "Cell").run Tryz.prog w = .ok (271, .agg #[]) w := fun _ => by kernel_rfl
theorem m_Cell_S : ∀ w : World, (method 386 66 (.agg #[]) "Cell").run Tryz.prog w = .ok (265, .agg #[]) w := fun _ => by kernel_rfl
theorem m_Value_I : ∀ w : World, (method 386 68 (.agg #[]) "Value").run Tryz.prog w = .ok (273, .agg #[]) w := fun _ => by kernel_rfl
theorem m_Number_I : ∀ w : World, (method 386 68 (.agg #[]) "Number").run Tryz.prog w = .ok (272, .agg #[]) w := fun _ => by kernel_rfl
theorem m_Number_S : ∀ w : World, (method 386 66 (.agg #[]) "Number").run Tryz.prog w = .ok (266, .agg #[]) w := fun _ => by kernel_rfl

theorem cell_set3 (w : World) (p g o : Nat) (a b c : Value) (h : g ≠ p) : (((w.setCell ⟨p, 0, none⟩ a).setCell ⟨p, 1, none⟩ b).setCell ⟨p, 2, none⟩ c).cell? ⟨g, o, none⟩ = w.cell? ⟨g, o, none⟩ :=
  World.cell?_of_block (w := w) (by rw [heap_setCell_other _ _ _ _ (by simpa using h), heap_setCell_other _ _ _ _ (by simpa using h), heap_setCell_other _ _ _ _ (by simpa using h)])
def setc3 (w : World) (p : Nat) (cs : List Value) : World := ((w.setCell ⟨p, 0, none⟩ (cs.getD 0 undef)).setCell ⟨p, 1, none⟩ (cs.getD 1 undef)).setCell ⟨p, 2, none⟩ (cs.getD 2 undef)
theorem row_setc3 {w : World} {p : Nat} {e : TypeId} {a b c : Value} (h : Row w p e [a, b, c]) (x y z : Value) : Row (setc3 w p [x, y, z]) p e [x, y, z] := ((h.set 0 x).set 1 y).set 2 z
theorem below_setc3 {B : Nat} {w0 w : World} (h : Below B w0 w) (p : Nat) (hp : B ≤ p) (cs : List Value) : Below B w0 (setc3 w p cs) := below_set (below_set (below_set h _ _ _ hp) _ _ _ hp) _ _ _ hp
/-- the cells of so many entries of three each -/
def cellsUp (A : Nat → Bool) (B : Nat → Int) (C : Nat → ByteArray) : Nat → List Value
  | 0 => []
  | n + 1 => cellsUp A B C n ++ [.bool (A n), .int .i64 (B n), .string (C n)]
theorem cellsUp_length (A : Nat → Bool) (B : Nat → Int) (C : Nat → ByteArray) (n : Nat) : (cellsUp A B C n).length = n * 3 := by
  induction n with
  | zero => rfl
  | succ n ih => simp [cellsUp, ih]; omega
theorem Tryz.infoCell : (Tryz.prog.info? 42).map (fun i => (i.zero, i.size, i.bytes)) = some (some (.agg [.bool false, .int .i64 0, .string ByteArray.empty].toArray), 3, 32) := by kernel_rfl
def setL (w : World) (a : Nat) : Nat → List Value → World
  | _, [] => w
  | o, v :: r => setL (w.setCell ⟨a, o, none⟩ v) a (o + 1) r
theorem row_setL {a : Nat} {e : TypeId} (vs : List Value) : ∀ (w : World) (pre cs : List Value), Row w a e (pre ++ cs) → vs.length = cs.length → Row (setL w a pre.length vs) a e (pre ++ vs) := by
  induction vs with
  | nil => intro w pre cs h hl; have : cs = [] := List.eq_nil_of_length_eq_zero hl.symm; subst this; exact h
  | cons v r ih =>
    intro w pre cs h hl
    match cs, hl with
    | c :: cs', hl =>
      have h1 := h.set pre.length v
      rw [List.set_append_right _ _ (Nat.le_refl _), Nat.sub_self, List.set_cons_zero] at h1
      have h2 := ih (w.setCell ⟨a, pre.length, none⟩ v) (pre ++ [v]) cs' (by simpa using h1) (by simpa using hl)
      rw [List.length_append] at h2
      simpa [setL] using h2
theorem row_setL0 {w : World} {a : Nat} {e : TypeId} {cs : List Value} (h : Row w a e cs) (vs : List Value) (hl : vs.length = cs.length) : Row (setL w a 0 vs) a e vs := row_setL vs w [] cs h hl
theorem below_setL {B : Nat} {w0 : World} (a : Nat) (ha : B ≤ a) (vs : List Value) : ∀ (w : World) (o : Nat), Below B w0 w → Below B w0 (setL w a o vs) := by
  induction vs with
  | nil => intro w o h; exact h
  | cons v r ih => intro w o h; exact ih _ _ (below_set h _ _ _ ha)
theorem setL_other (a : Nat) (vs : List Value) : ∀ (w : World) (o k : Nat), k ≠ a → (setL w a o vs).heap[k]? = w.heap[k]? := by
  induction vs with
  | nil => intro w o k h; rfl
  | cons v r ih => intro w o k h; rw [setL, ih _ _ _ h, heap_setCell_other _ _ _ _ (by simpa using h)]
theorem chg_setL (a : Nat) (vs : List Value) (w : World) (o : Nat) : Chg a a w (setL w a o vs) := by
  have hsz : ∀ (vs : List Value) (w : World) (o : Nat), Below 0 w (setL w a o vs) := fun vs w o => below_setL (w0 := w) a (Nat.zero_le _) vs w o (Below.refl _ _)
  have h := hsz vs w o
  exact ⟨h.os, h.tape, h.output, h.size, fun k _ h1 _ => setL_other a vs w o k h1⟩
theorem popN_zero (k : Nat) : L.popN k 0 = 0 := by induction k with | zero => rfl | succ k ih => simp [L.popN, ih]
/-- the bits up to b, pushed to the top of the word -/
theorem popN_top (x b : Nat) (hb : b < 64) : L.popN 64 (x * 2 ^ (63 - b) % 18446744073709551616) = L.popN (b + 1) x := by
  have e64 : (18446744073709551616 : Nat) = 2 ^ (63 - b) * 2 ^ (b + 1) := by rw [← Nat.pow_add, show 63 - b + (b + 1) = 64 by omega]
  have h1 : x * 2 ^ (63 - b) % 18446744073709551616 = 2 ^ (63 - b) * (x % 2 ^ (b + 1)) := by
    rw [e64, Nat.mul_comm x, Nat.mul_mod_mul_left]
  rw [h1, show (64 : Nat) = (63 - b) + (b + 1) by omega, L.popN_add, Nat.mul_div_cancel_left _ (Nat.pow_pos (by omega)), L.popN_mod]
  rw [← L.popN_mod, Nat.mul_mod_right, popN_zero, Nat.zero_add]
/-- the bits set up to a row -/
theorem rank_upto (ws : List Nat) (r : Nat) (hr : r / 64 < ws.length) :
    popL (ws.take (r / 64)) + L.popN 64 (ws.getD (r / 64) 0 * 2 ^ (63 - r % 64) % 18446744073709551616) = rankN ws (r + 1) := by
  rw [popN_top _ _ (by omega), ← rankN_words ws _ (by omega), ← rankN_word ws (r / 64) (r % 64 + 1) (by omega)]
  congr 1
  omega
end Go.Proofs.YthonbfojpbfmgaaGreatDoor

/- Package chunk: the number of a row's value. -/
set_option linter.unusedVariables false
set_option linter.unusedSimpArgs false
set_option linter.unnecessarySimpa false
set_option maxRecDepth 100000
namespace Go.Proofs.YthonbfojpbfmgaaGreatDoor
open Go.RowKit

set_option maxHeartbeats 4000000 in
theorem number_I (w : World) (g : Nat) (rows codec wd : Nat) (nulls : List Nat) (count : Int) (list : List Int) (ends : List Nat) (base : Int) (lanes : List Nat) (r : Nat)
    (h : Ck_I w g rows codec wd nulls count list ends base lanes) (hbm : nulls.length = (rows + 63) / 64) (hnv : ∀ x ∈ nulls, x < 18446744073709551616) (hrr : rows ≤ 65536) (hr : r < rows) :
    Calls Tryz.prog 171 #[.pointer (some ⟨g, 0, none⟩), .int .i64 r] w fun e w' => e = .returned (.int .i64 ((r : Int) - (rankN nulls (r + 1) : Nat))) ∧ Below w.heap.size w w' := by
  obtain ⟨nu, lv, ev, nv, bef, h1, h2, h3, h4, h5, h6⟩ := h.ex
  obtain ⟨A, ca, rfl, hlc, hcm, hA⟩ := h2.form
  obtain ⟨A', ca', rfl, hlc', hcm', hA'⟩ := h6.form
  obtain ⟨q, hq⟩ : ∃ q, r / 64 = q := ⟨_, rfl⟩
  obtain ⟨b, hb⟩ : ∃ b, r % 64 = b := ⟨_, rfl⟩
  have hq' : (r : Int) / 64 = (q : Int) := by omega
  have hb' : (r : Int) % 64 = (b : Int) := by omega
  have hqn : q < nulls.length := by omega
  have hb64 : b < 64 := by omega
  obtain ⟨bl, o, rfl, hs⟩ := hA (by omega)
  obtain ⟨bl', o', rfl, hs'⟩ := hA' (by omega)
  have c3 : w.cell? ⟨g, 3, none⟩ = some (.slice (some ⟨bl, o, none⟩) nulls.length ca) := by rw [h1.cell]; rfl
  have c10 : w.cell? ⟨g, 10, none⟩ = some (.slice (some ⟨bl', o', none⟩) nulls.length ca') := by rw [h1.cell]; rfl
  have d1 := hs.word q hqn
  have d2 : w.cell? ⟨bl', o' + q, none⟩ = some (.int .i64 (popL (nulls.take q) : Nat)) := by
    have := hs' q _ (i64s_get (befL nulls) q (by rw [befL_length]; exact hqn))
    rwa [befL_get _ _ hqn] at this
  have hxq : nulls.getD q 0 < 18446744073709551616 := hnv _ (by simp [List.getD, List.getElem?_eq_getElem hqn])
  have hrk := rank_upto nulls r (by rw [hq]; exact hqn)
  rw [hq, hb] at hrk
  have hpl := popL_le (nulls.take q)
  rw [List.length_take] at hpl
  have hle : rankN nulls (r + 1) ≤ r + 1 := by unfold rankN; have := List.length_filter_le (bitOf nulls) (List.range (r + 1)); rwa [List.length_range] at this
  generalize rankN nulls (r + 1) = rk at *
  have HON := hid (fun w2 : World => onesCount_any (nulls.getD q 0 * 2 ^ (63 - b) % 18446744073709551616) w2 (Nat.mod_lt _ (by omega)))
  generalize hp1 : popL (nulls.take q) = p1 at *
  generalize hp2 : L.popN 64 (nulls.getD q 0 * 2 ^ (63 - b) % 18446744073709551616) = p2 at *
  generalize nulls.getD q 0 = y at *
  obtain ⟨z, hz⟩ : ∃ z, y * 2 ^ (63 - b) % 18446744073709551616 = z := ⟨_, rfl⟩
  have hsh : IntKind.u64.wrap ((y : Int) * 2 ^ (63 - b)) = (z : Int) := by rw [IntKind.wrap_u64, ← hz]; simp
  rw [hz] at HON hp2
  have hsb : (63 : Int) - (b : Int) = ((63 - b : Nat) : Int) := by omega
  have hp1b : p1 ≤ 4194304 := by omega
  have HLE := hid hle
  have hp12 : (r : Int) - (p1 : Int) - (p2 : Int) = (r : Int) - (rk : Int) := by omega
  clear hle hpl hrk hbm h1 h2 h3 h4 h5 h6 hs hs' hA hA' hnv h hp1 hp2 hz hq hb
  go_enter Tryz.func171, Tryz.ntmps171
  go_wp2
  go_quiet (first | (go_at_call 117; refine Calls.quiet_of_same (HON.out _)))
  go_wp2_with fail
  go_ret
  exact ⟨ret_i64 (by have := HLE.out; unfold wrap64; omega), bdrew (brefl w) _⟩
end Go.Proofs.YthonbfojpbfmgaaGreatDoor

/- bitvec's setPlaces and Indexes. -/
set_option linter.unusedVariables false
set_option linter.unusedSimpArgs false
set_option linter.unnecessarySimpa false
set_option maxRecDepth 20000
namespace Go.Proofs.YthonbfojpbfmgaaGreatDoor
open Go.RowKit

end Go.Proofs.YthonbfojpbfmgaaGreatDoor

/- The laws' spoilWords: it writes into the list that it is given alone, and into memory of its own. -/
set_option linter.unusedVariables false
set_option linter.unusedSimpArgs false
set_option linter.unnecessarySimpa false
set_option maxRecDepth 20000
namespace Go.Proofs.YthonbfojpbfmgaaGreatDoor
open Go.RowKit

end Go.Proofs.YthonbfojpbfmgaaGreatDoor
