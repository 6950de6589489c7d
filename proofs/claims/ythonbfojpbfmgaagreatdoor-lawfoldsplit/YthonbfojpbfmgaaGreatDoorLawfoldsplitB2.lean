/- Package bitvec's Pack and Unpack. -/
import Derived.Test.YthonbfojpbfmgaaGreatDoorLawfoldsplitB1
import Derived.Deep.RegionWith
import Derived.Test.YthonbfojpbfmgaaGreatDoorLawfoldsplitB0
import Derived.Lib.TrailingZeros
set_option linter.unusedVariables false
set_option linter.unusedSimpArgs false
set_option linter.unnecessarySimpa false
set_option maxRecDepth 20000
namespace Go.Proofs.YthonbfojpbfmgaaGreatDoor
open Go.RowKit

theorem and_lane (x q wd : Nat) (hx : x < 18446744073709551616) (hw : wd ≤ 64) :
    bits BinOp.and IntKind.u64 ((x : Int) / 2 ^ q) ((2 ^ wd - 1 : Nat) : Int) = ((x / 2 ^ q % 2 ^ wd : Nat) : Int) := by
  have e : ((x : Int) / 2 ^ q) = ((x / 2 ^ q : Nat) : Int) := by simp
  have h := pow_le_64 hw
  have h0 : 0 < 2 ^ wd := Nat.pow_pos (by omega)
  have h1 : x / 2 ^ q ≤ x := Nat.div_le_self _ _
  rw [e, u64_and_nat _ _ (by omega) (by omega), Nat.and_two_pow_sub_one_eq_mod]



/-- the row with the places from o on laid with vs -/
def lay (cs : List Value) (o : Nat) (vs : List Value) : List Value := cs.take o ++ vs ++ cs.drop (o + vs.length)
def okVals (wd : Int) (xs : List Nat) : Bool := okLim wd xs.length && xs.all fun x => decide (x < 2 ^ wd.toNat)

/-- what Pack answers -/
def packR (wd : Int) (xs : List Nat) : List Nat := if okVals wd xs = true then L.packL wd.toNat xs else []

set_option maxHeartbeats 2000000 in
theorem Pack_any (v : Value) (xs : List Nat) (wd : Int) (w : World) (hx : Rd w v xs.length 1 (u64s xs)) (hv : ∀ x ∈ xs, x < 18446744073709551616) (hl : xs.length ≤ maxLen) :
    Calls Tryz.prog 221 #[v, .int .i64 wd] w fun e w' => ∃ r, e = .returned (.tuple #[r, .bool (okVals wd xs)]) ∧
      w'.ownsRow w.heap.size 40 1 r (packR wd xs).length (u64s (packR wd xs)) ∧ Below w.heap.size w w' := by
  unfold maxLen at hl
  obtain ⟨A, ca, rfl, hlc, hcm, hA⟩ := hx.form
  have HCM := hid hcm
  unfold maxLen at hcm
  by_cases hin : 0 ≤ wd ∧ wd ≤ 64 ∧ 0 ≤ (xs.length : Int) ∧ (xs.length : Int) ≤ 65536
  · obtain ⟨wd, rfl⟩ := Int.eq_ofNat_of_zero_le hin.1
    have hwd : wd ≤ 64 := by omega
    have hn : xs.length ≤ 65536 := by omega
    have HI := hid hin
    have HX := hid hx
    clear hin hx
    obtain ⟨z, hz⟩ : ∃ z, 2 ^ wd - 1 = z := ⟨_, rfl⟩
    have HZ := hid hz
    clear hz
    have hnwle := L.nWords_le (n := xs.length) hwd
    obtain ⟨m, hm⟩ : ∃ m, L.nWords wd xs.length = m := ⟨_, rfl⟩
    rw [hm] at hnwle
    have HM := hid hm
    clear hm
    go_enter Tryz.func221, Tryz.ntmps221
    go_wp2_with (first
        | (go_at_call 144; refine (inLimits_any _ _ _).mono ?_; rintro e w' ⟨rfl, rfl⟩; rw [decide_eq_true HI.out])
        | (go_at_call 68; refine (lowBits_any wd _ (by omega)).mono ?_; rintro e w' ⟨rfl, rfl⟩; rw [HZ.out]))
    go_loop [21] (fun i => ∃ k : Nat, k ≤ xs.length ∧ i = .int .i64 k ∧ ∀ t, t < k → xs.getD t 0 < 2 ^ wd) (fun i => xs.length - (intOf i).toNat)
    case atStart => exact ⟨0, by omega, rfl, fun t h => absurd h (Nat.not_lt_zero t)⟩
    case round =>
      obtain ⟨k, hk, rfl, hall⟩ := hrel
      have HA := hid hall
      clear hall
      by_cases hlt : k < xs.length
      · obtain ⟨b, o, rfl, hs⟩ := hA (by omega)
        have c1 := hs.word k hlt
        have h2 : 0 < 2 ^ wd := Nat.pow_pos (by omega)
        have HG : Hid (xs.getD k 0 ≤ z → ∀ t, t < k + 1 → xs.getD t 0 < 2 ^ wd) := by
          intro h t ht
          by_cases htk : t = k
          · subst htk; have := HZ.out; omega
          · exact HA.out t (by omega)
        have HB : Hid (¬ xs.getD k 0 ≤ z → okVals (wd : Int) xs = false) := by
          intro h
          rw [← Bool.not_eq_true]
          intro hp
          simp only [okVals, Bool.and_eq_true, List.all_eq_true, decide_eq_true_eq, Int.toNat_natCast] at hp
          have := hp.2 (xs.getD k 0) (by simp [List.getD, List.getElem?_eq_getElem hlt])
          have := HZ.out; omega
        clear hA hs h2
        generalize xs.getD k 0 = p at *
        go_wp2
        · rename_i h
          have hf := HB.out (by omega)
          go_ret2
          exact ⟨.slice none 0 0, by rw [hf]; rfl, by rw [packR, hf]; exact World.ownsRow_nil _ _ _ _, Below.refl _ _⟩
        · rename_i h
          go_round
          case rel => exact ⟨k + 1, by omega, by go_num, HG.out (by omega)⟩
          case measure => simp [intOf]; omega
      · have hok : okVals (wd : Int) xs = true := by
          simp only [okVals, okLim, Bool.and_eq_true, List.all_eq_true, decide_eq_true_eq, Int.toNat_natCast]
          refine ⟨HI.out, fun x hx => ?_⟩
          obtain ⟨t, ht, rfl⟩ := List.getElem_of_mem hx
          have := HA.out t (by omega)
          simpa [List.getD, List.getElem?_eq_getElem ht] using this
        have HOK := hid hok
        clear hok
        go_wp2_with (go_at_call 145; refine (laneWords_any _ _ m _ (by omega) (by omega) HM.out).mono ?_; rintro e w' ⟨rfl, rfl⟩)
        refine upon_make 40 (.int .u64 0) 8 Tryz.underlying28 Tryz.info45 rfl m (by omega) (by omega) (by omega) (by unfold maxLen; omega) ?_
        intro w1 hrow hb1 hsz1
        have HZ1 := hid hsz1
        clear hsz1
        go_wp2
        go_loopw [36] (fun i wr => ∃ j : Nat, j ≤ m ∧ i = .int .i64 j ∧ Row wr w'.heap.size 40 (u64s ((L.packL wd xs).take j) ++ List.replicate (m - j) (.int .u64 0)) ∧ Below w'.heap.size w' wr ∧ Hid (wr.heap.size = w'.heap.size + 1)) (fun i _ => m - (intOf i).toNat)
        case atStart => exact ⟨0, by omega, rfl, by simpa [u64s] using hrow, hb1, HZ1⟩
        case round =>
          obtain ⟨j, hj, rfl, hr, hb, hz⟩ := hrel
          clear hrow hb1 HZ1
          have hpl : (L.packL wd xs).length = m := by rw [L.packL_length]; exact HM.out
          by_cases hlt : j < m
          · have hcell : wr.cell? ⟨w'.heap.size, j, none⟩ = some (.int .u64 0) := by
              rw [hr.cell]; exact get_fill _ _ _ _ (by simp [u64s]; omega) (by omega)
            have hfr := hr.frozen j
            have HR := hid hr
            clear hr
            have hw0 : 0 < wd := by
              rcases Nat.eq_zero_or_pos wd with h | h
              · exfalso; subst h; have := HM.out; rw [L.nWords_zero] at this; omega
              · exact h
            have hjp : j * (64 / wd) < xs.length := (L.lt_nWords hw0 hwd).1 (by rw [HM.out]; exact hlt)
            obtain ⟨c, hc⟩ : ∃ c, L.inWord wd xs.length j = c := ⟨_, rfl⟩
            have hcw : c * wd ≤ 64 := by rw [← hc]; exact L.inWord_le wd _ j
            have hgetp := L.packL_get wd xs j (by rw [HM.out]; exact hlt)
            obtain ⟨p, hp⟩ : ∃ p, 64 / wd = p := ⟨_, rfl⟩
            obtain ⟨q, hq⟩ : ∃ q, j * p = q := ⟨_, rfl⟩
            have hq' : (j : Int) * (p : Int) = (q : Int) := by rw [← hq]; simp
            have hpp := L.per_pos hw0 hwd
            have hJP := hid hjp
            rw [hp] at hjp hgetp hpp
            rw [hq] at hjp hgetp
            have hcc : c = min p (xs.length - q) := by rw [← hc, L.inWord, hp, hq]
            have hc1 : q + c ≤ xs.length := by omega
            have HC := hid hc; have HP := hid hp; have HGP := hid hgetp; have HCC := hid hcc
            obtain ⟨b, o, rfl, hs⟩ := hA (by omega)
            have hseg := hs.mono (hb.mono (Nat.le_refl _))
            have HPT : Hid (Rd wr (.slice (some ⟨b, o + q, none⟩) c (ca - q)) ((xs.drop q).take c).length 1 (u64s ((xs.drop q).take c))) := by
              have := Rd.part hseg q c (by simp [u64s]) hc1 (by omega) HCM.out
              have e : ((xs.drop q).take c).length = c := by rw [List.length_take, List.length_drop]; omega
              refine hid ?_
              rw [e]
              simpa [u64s, List.map_take, List.map_drop] using this
            have htk : (xs.drop q).take p = (xs.drop q).take c := by
              rw [HCC.out]
              by_cases h : p ≤ xs.length - q
              · rw [Nat.min_eq_left h]
              · rw [Nat.min_eq_right (by omega), List.take_of_length_le (by rw [List.length_drop]; omega), List.take_of_length_le (by rw [List.length_drop]; omega)]
            rw [htk] at HGP
            have hcl : ((xs.drop q).take c).length = c := by rw [List.length_take, List.length_drop]; omega
            have HCL := hid hcl
            have HXV : Hid (∀ x ∈ (xs.drop q).take c, x < 2 ^ wd) := by
              intro x hx
              obtain ⟨t, ht, rfl⟩ := List.getElem_of_mem (List.mem_of_mem_drop (List.mem_of_mem_take hx))
              have := HA.out t (by omega)
              simpa [List.getD, List.getElem?_eq_getElem ht] using this
            obtain ⟨y, hy⟩ : ∃ y, (L.packL wd xs).getD j 0 = y := ⟨_, rfl⟩
            have HY := hid hy
            rw [hy] at HGP
            clear hc hp hq hgetp hcc hA hseg hs htk hcl hy
            go_wp2_with (first
              | (go_at_call 96; refine (lanesPerWord_any _ p _ (by omega) (by omega) HP.out).mono ?_; rintro e w'' ⟨rfl, rfl⟩)
              | (go_at_call 93; refine (lanesInWord_any _ _ _ c _ (by omega) (by omega) (by omega) (Nat.le_of_lt hJP.out) HC.out).mono ?_; rintro e w'' ⟨rfl, rfl⟩)
              | (go_at_call 244; refine (packWord_any _ ((xs.drop q).take c) wd _ HPT.out (by omega) (by omega) (by rw [HCL.out]; omega) HXV.out).mono ?_; rintro e w'' ⟨rfl, rfl⟩; rw [← HGP.out]))
            go_roundw
            case rel =>
              refine ⟨j + 1, by omega, by go_num, ?_, below_set hb _ _ _ (Nat.le_refl _), ?_⟩
              · have hs := HR.out.set j (.int .u64 (y : Int))
                rw [set_fill _ _ _ _ _ (by simp [u64s]; omega) (by omega)] at hs
                rw [List.take_succ_eq_append_getElem (by omega), u64s_append, ← Nat.sub_sub m j 1]
                have e : (L.packL wd xs)[j]'(by omega) = y := by
                  have := HY.out
                  simpa [List.getD, List.getElem?_eq_getElem (show j < (L.packL wd xs).length by omega)] using this
                rw [e]
                exact hs
              · show _ = _; rw [← hz.out]; simp [World.setCell]
            case measure => simp [intOf]; omega
          · go_wp2
            go_ret2
            obtain rfl : j = m := by omega
            have hpk : packR (wd : Int) xs = L.packL wd xs := by rw [packR, if_pos HOK.out, Int.toNat_natCast]
            refine ⟨.slice (some ⟨w'.heap.size, 0, none⟩) j j, by rw [HOK.out]; rfl, ?_, hb⟩
            rw [hpk, hpl]
            refine Row.owns ?_ (Nat.le_refl _) (by simp [u64s, hpl]) (by unfold maxLen; omega)
            rw [show List.take j (L.packL wd xs) = L.packL wd xs from by rw [← hpl, List.take_length], Nat.sub_self] at hr
            simpa using hr
  · have hno : okVals wd xs = false := by simp [okVals, okLim]; intro a b c; omega
    go_enter Tryz.func221, Tryz.ntmps221
    go_wp2_with (go_at_call 144; refine (inLimits_any _ _ _).mono ?_; rintro e w' ⟨rfl, rfl⟩; rw [decide_eq_false hin])
    go_ret2
    exact ⟨.slice none 0 0, by rw [hno]; rfl, by rw [packR, hno]; exact World.ownsRow_nil _ _ _ _, Below.refl _ _⟩

end Go.Proofs.YthonbfojpbfmgaaGreatDoor

/- The plain answer's Pack. -/
set_option linter.unusedVariables false
set_option linter.unusedSimpArgs false
set_option linter.unnecessarySimpa false
set_option maxRecDepth 20000
namespace Go.Proofs.YthonbfojpbfmgaaGreatDoor
open Go.RowKit

theorem u64s_set (ys : List Nat) (i n : Nat) : (u64s ys).set i (.int .u64 (n : Int)) = u64s (ys.set i n) := by simp [u64s, u64, List.map_set]
theorem or_u64_bit (a s : Nat) (ha : a < 18446744073709551616) (hs : s < 64) : bits BinOp.or IntKind.u64 (a : Int) (IntKind.u64.wrap (2 ^ s)) = ((a ||| 2 ^ s : Nat) : Int) := by
  have h : 2 ^ s < 18446744073709551616 := by
    have : 2 ^ s ≤ 2 ^ 63 := Nat.pow_le_pow_right (by omega) (by omega)
    omega
  have e : ((2 : Int) ^ s) = ((2 ^ s : Nat) : Int) := by simp
  rw [e, wrap_u64_nat _ h, u64_or_nat _ _ ha h]

end Go.Proofs.YthonbfojpbfmgaaGreatDoor

/- The plain answer's Unpack. -/
set_option linter.unusedVariables false
set_option linter.unusedSimpArgs false
set_option linter.unnecessarySimpa false
set_option maxRecDepth 20000
namespace Go.Proofs.YthonbfojpbfmgaaGreatDoor
open Go.RowKit

end Go.Proofs.YthonbfojpbfmgaaGreatDoor

/- Bitmaps as plain mathematics: lanes of width 1. -/
set_option maxRecDepth 512
set_option linter.unusedVariables false
set_option linter.unusedSimpArgs false
set_option linter.unnecessarySimpa false
namespace Go.Proofs.YthonbfojpbfmgaaGreatDoor

/-- the bitmap of a list of flags -/
def bmL (fl : List Bool) : List Nat := L.packL 1 (fl.map Bool.toNat)
/-- ws is the bitmap of n bits of which f tells -/
def IsBm (n : Nat) (ws : List Nat) (f : Nat → Bool) : Prop := ws.length = L.nWords 1 n ∧ (∀ x ∈ ws, x < 18446744073709551616) ∧ ∀ i, i < 64 * ws.length → bitOf ws i = (decide (i < n) && f i)

theorem nWords1 (n : Nat) : L.nWords 1 n = (n + 63) / 64 := by simp [L.nWords]
theorem nWords1_le (n : Nat) : n ≤ 64 * L.nWords 1 n := by rw [nWords1]; omega
theorem bitOf_out (ws : List Nat) (i : Nat) (h : 64 * ws.length ≤ i) : bitOf ws i = false := by
  unfold bitOf
  rw [L.getD_out (i / 64) (by omega)]; simp
theorem bm_ext {a b : List Nat} (hl : a.length = b.length) (ha : ∀ x ∈ a, x < 18446744073709551616) (hb : ∀ x ∈ b, x < 18446744073709551616) (h : ∀ i, i < 64 * a.length → bitOf a i = bitOf b i) : a = b := by
  apply L.ext_getD hl
  intro k hk
  apply Nat.eq_of_testBit_eq
  intro p
  have hx : a.getD k 0 < 2 ^ 64 := by apply ha; simp [List.getD, List.getElem?_eq_getElem hk]
  have hy : b.getD k 0 < 2 ^ 64 := by apply hb; simp [List.getD, List.getElem?_eq_getElem (show k < b.length by omega)]
  by_cases hp : p < 64
  · have := h (64 * k + p) (by omega)
    unfold bitOf at this
    rw [show (64 * k + p) / 64 = k from by omega, show (64 * k + p) % 64 = p from by omega] at this
    exact this
  · rw [Nat.testBit_lt_two_pow (Nat.lt_of_lt_of_le hx (Nat.pow_le_pow_right (by omega) (by omega))), Nat.testBit_lt_two_pow (Nat.lt_of_lt_of_le hy (Nat.pow_le_pow_right (by omega) (by omega)))]
theorem IsBm.unique {n : Nat} {a b : List Nat} {f : Nat → Bool} (ha : IsBm n a f) (hb : IsBm n b f) : a = b :=
  bm_ext (ha.1.trans hb.1.symm) ha.2.1 hb.2.1 fun i hi => by rw [ha.2.2 i hi, hb.2.2 i (by rw [hb.1, ← ha.1]; exact hi)]

theorem laneOf_one (ws : List Nat) (i : Nat) : L.laneOf 1 ws i = (bitOf ws i).toNat := by
  unfold L.laneOf bitOf
  rw [if_neg (by omega), Nat.div_one, Nat.mul_one, Nat.pow_one, Nat.testBit_eq_decide_div_mod_eq]
  have : ws.getD (i / 64) 0 / 2 ^ (i % 64) % 2 = 0 ∨ ws.getD (i / 64) 0 / 2 ^ (i % 64) % 2 = 1 := by omega
  rcases this with h | h <;> rw [h] <;> rfl
theorem toNat_inj {a b : Bool} (h : a.toNat = b.toNat) : a = b := by cases a <;> cases b <;> simp_all
theorem toNat_lt (fl : List Bool) : ∀ x ∈ fl.map Bool.toNat, x < 2 ^ 1 := by
  intro x hx; obtain ⟨b, _, rfl⟩ := List.mem_map.1 hx; cases b <;> decide
theorem isPack_lt {w n : Nat} {ws : List Nat} (h : L.IsPack w n ws) : ∀ x ∈ ws, x < 18446744073709551616 := by
  intro x hx
  obtain ⟨k, hk, rfl⟩ := List.getElem_of_mem hx
  have h1 := h.2 k hk
  have h2 := pow_le_64 (L.inWord_le w n k)
  simp only [List.getD, List.getElem?_eq_getElem hk, Option.getD_some] at h1
  omega
/-- a packing of lanes of width 1 has no bit beyond its lanes -/
theorem isPack_beyond {n : Nat} {ws : List Nat} (h : L.IsPack 1 n ws) (i : Nat) (hi : n ≤ i) : bitOf ws i = false := by
  by_cases hl : i / 64 < ws.length
  · have h1 := h.2 (i / 64) hl
    unfold bitOf
    apply Nat.testBit_lt_two_pow
    refine Nat.lt_of_lt_of_le h1 (Nat.pow_le_pow_right (by omega) ?_)
    unfold L.inWord; omega
  · exact bitOf_out ws i (by omega)
theorem bmL_isBm (fl : List Bool) : IsBm fl.length (bmL fl) (fun i => fl.getD i false) := by
  have hpk := L.pack_isPack (w := 1) (by omega) (fl.map Bool.toNat) (toNat_lt fl)
  rw [List.length_map] at hpk
  refine ⟨hpk.1, isPack_lt hpk, fun i _ => ?_⟩
  by_cases hi : i < fl.length
  · have h1 := L.lanes_pack (w := 1) (by omega) (fl.map Bool.toNat) (toNat_lt fl)
    have h2 := L.lanesL_get 1 (fl.map Bool.toNat).length (bmL fl) i (by simpa using hi)
    have h3 : (L.lanesL 1 (fl.map Bool.toNat).length (bmL fl)) = fl.map Bool.toNat := h1
    rw [h3, laneOf_one] at h2
    have h4 : (fl.map Bool.toNat).getD i 0 = (fl.getD i false).toNat := by simp [List.getD, List.getElem?_eq_getElem hi]
    rw [h4] at h2
    simp only [hi, decide_true, Bool.true_and]
    exact (toNat_inj h2).symm
  · have hz := isPack_beyond hpk i (by omega)
    unfold bmL; rw [hz]; simp [hi]
theorem IsBm.eq_bmL {n : Nat} {a : List Nat} {f : Nat → Bool} (ha : IsBm n a f) : a = bmL ((List.range n).map f) := by
  apply ha.unique
  have h := bmL_isBm ((List.range n).map f)
  rw [List.length_map, List.length_range] at h
  refine ⟨h.1, h.2.1, fun i hi => ?_⟩
  rw [h.2.2 i hi]
  by_cases hin : i < n
  · simp [hin, List.getD, List.getElem?_range hin]
  · simp [hin]
/-- one bit set -/
theorem bitOf_set (ws : List Nat) (i : Nat) (hi : i < 64 * ws.length) (j : Nat) : bitOf (ws.set (i / 64) (ws.getD (i / 64) 0 ||| 2 ^ (i % 64))) j = (bitOf ws j || decide (j = i)) := by
  unfold bitOf
  have hl : i / 64 < ws.length := by omega
  by_cases hk : j / 64 = i / 64
  · have e : (ws.set (i / 64) (ws.getD (i / 64) 0 ||| 2 ^ (i % 64))).getD (j / 64) 0 = ws.getD (i / 64) 0 ||| 2 ^ (i % 64) := by
      rw [hk]; simp [List.getD, hl]
    rw [e, Nat.testBit_or, Nat.testBit_two_pow, hk]
    congr 1
    rw [decide_eq_decide]; omega
  · have e : (ws.set (i / 64) (ws.getD (i / 64) 0 ||| 2 ^ (i % 64))).getD (j / 64) 0 = ws.getD (j / 64) 0 := by
      simp only [List.getD]; rw [List.getElem?_set_ne (by omega)]
    have : ¬ j = i := fun h => hk (by rw [h])
    rw [e]; simp [this]
theorem set_lt64 (ws : List Nat) (hw : ∀ x ∈ ws, x < 18446744073709551616) (i : Nat) : ∀ x ∈ ws.set (i / 64) (ws.getD (i / 64) 0 ||| 2 ^ (i % 64)), x < 18446744073709551616 := by
  intro x hx
  rcases List.mem_or_eq_of_mem_set hx with h | h
  · exact hw x h
  · rw [h]
    have h1 : ws.getD (i / 64) 0 < 2 ^ 64 := L.getD_lt (w := 64) (fun a ha => by have := hw a ha; omega) (i / 64)
    have h2 : 2 ^ (i % 64) < 2 ^ 64 := Nat.pow_lt_pow_right (by omega) (by omega)
    have := Nat.or_lt_two_pow h1 h2
    omega

/-- the lowest set bit -/
theorem ctz_form (x : Nat) (h0 : x ≠ 0) (h : x < 18446744073709551616) : ∃ m, x = 2 ^ Lib.ctz 64 x + 2 ^ (Lib.ctz 64 x + 1) * m ∧ Lib.ctz 64 x < 64 := by
  obtain ⟨m, hm, hk⟩ := Lib.ctzFrom_spec 64 x (by omega) (by omega)
  have e : Lib.ctz 64 x = Lib.ctzFrom 64 x := by simp [Lib.ctz, h0]
  rw [e]
  refine ⟨m, ?_, hk⟩
  conv => lhs; rw [hm]
  rw [Nat.mul_add, Nat.mul_one, Nat.pow_succ, Nat.mul_assoc, Nat.add_comm]
theorem clear_lowest (x : Nat) (h0 : x ≠ 0) (h : x < 18446744073709551616) (p : Nat) : (x &&& (x - 1)).testBit p = (x.testBit p && decide (p ≠ Lib.ctz 64 x)) ∧ x.testBit (Lib.ctz 64 x) = true ∧ (x &&& (x - 1)) < x := by
  obtain ⟨m, hm, hk⟩ := ctz_form x h0 h
  generalize Lib.ctz 64 x = t at *
  have hp : 0 < 2 ^ t := Nat.pow_pos (by omega)
  have hlt : 2 ^ t < 2 ^ (t + 1) := Nat.pow_lt_pow_right (by omega) (by omega)
  have hand : x &&& (x - 1) = 2 ^ (t + 1) * m := by
    rw [show x - 1 = (2 ^ t - 1) + 2 ^ (t + 1) * m from by omega]
    conv => lhs; rw [hm]
    rw [L.and_join (t + 1) _ _ m m hlt (by omega), Nat.and_self]
    have : 2 ^ t &&& (2 ^ t - 1) = 0 := by rw [Nat.and_two_pow_sub_one_eq_mod, Nat.mod_self]
    rw [this, Nat.zero_add]
  have hb : ∀ q, x.testBit q = if q < t + 1 then decide (t = q) else m.testBit (q - (t + 1)) := by
    intro q; rw [hm, Nat.add_comm, Nat.testBit_two_pow_mul_add _ hlt, Nat.testBit_two_pow]
  refine ⟨?_, by rw [hb]; simp, by rw [hand]; omega⟩
  rw [hand, hb, show 2 ^ (t + 1) * m = 2 ^ (t + 1) * m + 0 from rfl, Nat.testBit_two_pow_mul_add _ (Nat.pow_pos (by omega))]
  by_cases hq : p < t + 1
  · rw [if_pos hq, if_pos hq]
    by_cases ht : t = p
    · simp [ht]
    · simp [ht]
  · rw [if_neg hq, if_neg hq]
    have : p ≠ t := by omega
    simp [this]
end Go.Proofs.YthonbfojpbfmgaaGreatDoor
