/- Package bitvec's Pack and Unpack. -/
import Derived.Test.YthonbfojpbfmgaaGreatDoorLawfolduptoB1
import Derived.Deep.RegionWith
import Derived.Lib.TrailingZeros
set_option linter.unusedVariables false
set_option linter.unusedSimpArgs false
set_option linter.unnecessarySimpa false
set_option maxRecDepth 20000
namespace Go.Proofs.YthonbfojpbfmgaaGreatDoor
open Go.RowKit

theorem and_lane (x q wd : Nat) (hx : x < 18446744073709551616) (hw : wd ≤ 64) :
    bits BinOp.and IntKind.u64 ((x : Int) / 2 ^ q) ((2 ^ wd - 1 : Nat) : Int) = ((x / 2 ^ q % 2 ^ wd : Nat) : Int) := by
  have e : ((x : Int) / 2 ^ q) = ((x / 2 ^ q : Nat) : Int) := by simp
  have h := pow_le_64 hw
  have h0 : 0 < 2 ^ wd := Nat.pow_pos (by omega)
  have h1 : x / 2 ^ q ≤ x := Nat.div_le_self _ _
  rw [e, u64_and_nat _ _ (by omega) (by omega), Nat.and_two_pow_sub_one_eq_mod]



/-- the row with the places from o on laid with vs -/
def lay (cs : List Value) (o : Nat) (vs : List Value) : List Value := cs.take o ++ vs ++ cs.drop (o + vs.length)
def okVals (wd : Int) (xs : List Nat) : Bool := okLim wd xs.length && xs.all fun x => decide (x < 2 ^ wd.toNat)

/-- what Pack answers -/
def packR (wd : Int) (xs : List Nat) : List Nat := if okVals wd xs = true then L.packL wd.toNat xs else []

/-- what Unpack answers -/
def unpackR (wd n : Int) (xs : List Nat) : List Nat := if okPack wd n xs = true then L.lanesL wd.toNat n.toNat xs else []

end Go.Proofs.YthonbfojpbfmgaaGreatDoor

/- The plain answer's Pack. -/
set_option linter.unusedVariables false
set_option linter.unusedSimpArgs false
set_option linter.unnecessarySimpa false
set_option maxRecDepth 20000
namespace Go.Proofs.YthonbfojpbfmgaaGreatDoor
open Go.RowKit

/-- the words after the lanes l and the first t bits of x -/
def upTo (wd : Nat) (l : List Nat) (x t : Nat) : List Nat := L.packL wd (l ++ if t = 0 then [] else [x % 2 ^ t])
theorem upTo_zero (wd : Nat) (l : List Nat) (x : Nat) : upTo wd l x 0 = L.packL wd l := by simp [upTo]
theorem upTo_all (wd : Nat) (h : wd ≤ 64) (l : List Nat) (x : Nat) (hx : x < 2 ^ wd) : upTo wd l x wd = L.packL wd (l ++ [x]) := by
  unfold upTo
  by_cases h0 : wd = 0
  · subst h0; simp [L.packL_zero]
  · rw [if_neg h0, Nat.mod_eq_of_lt hx]
theorem upTo_long {wd : Nat} (h0 : 0 < wd) (h : wd ≤ 64) (l : List Nat) (x t : Nat) (hl : l.length / (64 / wd) < (upTo wd l x t).length) : upTo wd l x t = L.packL wd (l ++ [x % 2 ^ t]) := by
  by_cases ht : t = 0
  · subst ht
    rw [upTo_zero] at hl ⊢
    rw [Nat.pow_zero, Nat.mod_one, L.packL_snoc_zero h0 h l hl]
  · simp [upTo, ht]
theorem upTo_short {wd : Nat} (h0 : 0 < wd) (h : wd ≤ 64) (l : List Nat) (x t : Nat) (hl : (upTo wd l x t).length ≤ l.length / (64 / wd)) : upTo wd l x t ++ [0] = L.packL wd (l ++ [x % 2 ^ t]) := by
  by_cases ht : t = 0
  · subst ht
    rw [upTo_zero] at hl ⊢
    rw [Nat.pow_zero, Nat.mod_one, L.packL_snoc_zero_new h0 h l hl]
  · exfalso
    simp only [upTo, ht, if_false] at hl
    rw [L.packL_snoc_length h0 h] at hl
    omega
theorem upTo_bit {wd : Nat} (h0 : 0 < wd) (h : wd ≤ 64) (l : List Nat) (hl : ∀ x ∈ l, x < 2 ^ wd) (x t : Nat) :
    (x.testBit t = false → upTo wd l x (t + 1) = L.packL wd (l ++ [x % 2 ^ t])) ∧
    (x.testBit t = true → (L.packL wd (l ++ [x % 2 ^ t])).set (l.length / (64 / wd)) ((L.packL wd (l ++ [x % 2 ^ t])).getD (l.length / (64 / wd)) 0 ||| 2 ^ (l.length % (64 / wd) * wd + t)) = upTo wd l x (t + 1)) := by
  refine ⟨fun hb => ?_, fun hb => ?_⟩
  · simp [upTo, L.mod_succ_bit, hb]
  · rw [L.packL_bit h0 h l hl x t hb]; simp [upTo]

theorem u64s_set (ys : List Nat) (i n : Nat) : (u64s ys).set i (.int .u64 (n : Int)) = u64s (ys.set i n) := by simp [u64s, u64, List.map_set]
theorem or_u64_bit (a s : Nat) (ha : a < 18446744073709551616) (hs : s < 64) : bits BinOp.or IntKind.u64 (a : Int) (IntKind.u64.wrap (2 ^ s)) = ((a ||| 2 ^ s : Nat) : Int) := by
  have h : 2 ^ s < 18446744073709551616 := by
    have : 2 ^ s ≤ 2 ^ 63 := Nat.pow_le_pow_right (by omega) (by omega)
    omega
  have e : ((2 : Int) ^ s) = ((2 ^ s : Nat) : Int) := by simp
  rw [e, wrap_u64_nat _ h, u64_or_nat _ _ ha h]

set_option maxHeartbeats 4000000 in
theorem refPack_any (v : Value) (xs : List Nat) (wd : Int) (w : World) (hx : Rd w v xs.length 1 (u64s xs)) (hv : ∀ x ∈ xs, x < 18446744073709551616) (hl : xs.length ≤ maxLen) :
    Calls Tryz.prog 241 #[v, .int .i64 wd] w fun e w' => ∃ r, e = .returned (.tuple #[r, .bool (okVals wd xs)]) ∧
      w'.ownsRow w.heap.size 40 1 r (packR wd xs).length (u64s (packR wd xs)) ∧ Below w.heap.size w w' := by
  unfold maxLen at hl
  obtain ⟨A, ca, rfl, hlc, hcm, hA⟩ := hx.form
  clear hlc hcm hx
  by_cases hin : 0 ≤ wd ∧ wd ≤ 64 ∧ xs.length ≤ 65536
  · obtain ⟨wd, rfl⟩ := Int.eq_ofNat_of_zero_le hin.1
    have hwd : wd ≤ 64 := by omega
    have hn : xs.length ≤ 65536 := by omega
    clear hin
    go_enter Tryz.func241, Tryz.ntmps241
    go_wp2
    go_loopw [6, 24] (fun v6 i wr => ∃ j : Nat, j ≤ xs.length ∧ i = .int .i64 j ∧ wr.ownsRow w.heap.size 40 1 v6 (L.packL wd (xs.take j)).length (u64s (L.packL wd (xs.take j))) ∧ (∀ t, t < j → xs.getD t 0 < 2 ^ wd) ∧ Below w.heap.size w wr) (fun _ i _ => xs.length - (intOf i).toNat)
    case atStart => exact ⟨0, by omega, rfl, by simpa [L.packL_nil wd hwd, u64s] using World.ownsRow_nil _ _ _ _, fun t h => absurd h (Nat.not_lt_zero t), Below.refl _ _⟩
    case round =>
      obtain ⟨j, hj, rfl, hown, hall, hb⟩ := hrel
      have HALL := hid hall
      have HOWN := hid hown
      clear hall hown
      by_cases hlt : j < xs.length
      · obtain ⟨b, o, rfl, hs⟩ := hA (by omega)
        have c1 := (hs.mono (hb.mono (Nat.le_refl _))).word j hlt
        have hvx := hv (xs.getD j 0) (by simp [List.getD, List.getElem?_eq_getElem hlt])
        have HVX := hid hvx
        have HTK : Hid (xs.take (j + 1) = xs.take j ++ [xs.getD j 0]) := by
          refine hid ?_; rw [List.take_succ_eq_append_getElem hlt]; simp [List.getD, List.getElem?_eq_getElem hlt]
        have HLL : Hid ((xs.take j).length = j) := by refine hid ?_; rw [List.length_take]; omega
        have HLV : Hid (∀ x ∈ xs.take j, x < 2 ^ wd) := by
          intro x hx
          obtain ⟨t, ht, rfl⟩ := List.getElem_of_mem hx
          have h2 : t < j := by rw [List.length_take] at ht; omega
          have := HALL.out t h2
          simpa [List.getD, List.getElem?_eq_getElem (show t < xs.length by omega)] using this
        have HNX : Hid (¬ xs.getD j 0 < 2 ^ wd → okVals (wd : Int) xs = false) := by
          intro h
          rw [← Bool.not_eq_true]
          intro hp
          simp only [okVals, Bool.and_eq_true, List.all_eq_true, decide_eq_true_eq, Int.toNat_natCast] at hp
          exact h (hp.2 (xs.getD j 0) (by simp [List.getD, List.getElem?_eq_getElem hlt]))
        have HYX : Hid (xs.getD j 0 < 2 ^ wd → ∀ t, t < j + 1 → xs.getD t 0 < 2 ^ wd) := by
          intro h t ht
          by_cases htk : t = j
          · subst htk; exact h
          · exact HALL.out t (by omega)
        clear hs hvx HALL hA
        generalize xs.getD j 0 = x at *
        generalize hl1 : xs.take (j + 1) = l1 at *
        have HL1 := hid hl1
        clear hl1
        generalize xs.take j = l at *
        by_cases hxw : x < 2 ^ wd
        · have HXW := hid hxw
          have HBT : Hid (decide (x < 2 ^ wd) = true) := by refine hid ?_; simpa using hxw
          clear hxw
          go_wp2_with (go_at_call 247; refine (below_any _ wd _ HVX.out (by omega)).mono ?_; rintro e w' ⟨rfl, rfl⟩; rw [HBT.out])
          go_loopw [6, 9] (fun v6 i wr => ∃ t : Nat, t ≤ wd ∧ i = .int .i64 t ∧ wr.ownsRow w.heap.size 40 1 v6 (upTo wd l x t).length (u64s (upTo wd l x t)) ∧ Below w.heap.size w wr) (fun _ i _ => wd - (intOf i).toNat)
          case atStart => exact ⟨0, by omega, rfl, by rw [upTo_zero]; exact HOWN.out, hb⟩
          case round =>
            obtain ⟨t, ht, rfl, hown, hb'⟩ := hrel
            clear hb c1 HOWN
            have HOWN := hid hown
            clear hown
            by_cases htw : t < wd
            · obtain ⟨p, hp⟩ : ∃ p, 64 / wd = p := ⟨_, rfl⟩
              have hpp := L.per_pos (w := wd) (by omega) hwd
              rw [hp] at hpp
              obtain ⟨d, hd⟩ : ∃ d, j / p = d := ⟨_, rfl⟩
              obtain ⟨s, hs⟩ : ∃ s, j % p * wd + t = s := ⟨_, rfl⟩
              have hs64 : s < 64 := by
                have h1 : (j % p + 1) * wd ≤ p * wd := Nat.mul_le_mul_right wd (Nat.mod_lt _ hpp)
                have h2 : p * wd ≤ 64 := by rw [← hp]; exact L.per_mul wd
                rw [Nat.add_mul, Nat.one_mul] at h1
                omega
              obtain ⟨c, hc⟩ : ∃ c, 64 * (j / p) + j % p * wd + t = c := ⟨_, rfl⟩
              have hdj : d ≤ j := by rw [← hd]; exact Nat.div_le_self _ _
              have hcd : c = 64 * d + s := by rw [← hc, hd, ← hs]; omega
              have hc1 : (c : Int) / 64 = (d : Int) := by omega
              have hc2 : (c : Int) % 64 = (s : Int) := by omega
              have HC := hid hc; have HP := hid hp
              have HSH := hid (upTo_short (wd := wd) (by omega) hwd l x t)
              have HLO := hid (upTo_long (wd := wd) (by omega) hwd l x t)
              have HBI := hid (upTo_bit (wd := wd) (by omega) hwd l HLV.out x t)
              have HFL : Hid ((L.packL wd (l ++ [x % 2 ^ t])).length = d + 1) := by refine hid ?_; rw [L.packL_snoc_length (by omega) hwd, HLL.out, hp, hd]
              rw [HLL.out, hp, hd] at HSH HLO HBI
              rw [hs] at HBI
              have HFB : Hid (∀ y ∈ L.packL wd (l ++ [x % 2 ^ t]), y < 18446744073709551616) := by
                intro y hy
                obtain ⟨k, hk, rfl⟩ := List.getElem_of_mem hy
                have hlv : ∀ z ∈ l ++ [x % 2 ^ t], z < 2 ^ wd := by
                  intro z hz
                  rcases List.mem_append.1 hz with h | h
                  · exact HLV.out z h
                  · simp at h; subst h; exact Nat.lt_of_le_of_lt (Nat.mod_le _ _) HXW.out
                have h1 := (L.pack_isPack hwd _ hlv).2 k hk
                have h2 := pow_le_64 (L.inWord_le wd (l ++ [x % 2 ^ t]).length k)
                simp only [List.getD, List.getElem?_eq_getElem hk, Option.getD_some] at h1
                omega
              have HBT2 := hid (bit_test x t HVX.out)
              clear hc hp hd hs hcd hpp
              generalize L.packL wd (l ++ [x % 2 ^ t]) = F at *
              generalize upTo wd l x t = E at *
              go_wp2_with (go_at_call 240; refine (laneBit_any j t wd p c _ (by omega) hwd htw (by omega) HP.out HC.out).mono ?_; rintro e w2 ⟨rfl, nd, rfl⟩)
              have HOWN2 := hid (owns_below HOWN.out (Go.below_drewN (Below.refl _ wr) nd))
              have hb2 := Go.below_drewN hb' nd
              clear HOWN hb'
              generalize hwr2 : wr.drewN nd = wr2 at *
              clear hwr2
              go_loopw [6] (fun v6 wv => ∃ ys : List Nat, (ys = E ∨ ys = F) ∧ wv.ownsRow w.heap.size 40 1 v6 ys.length (u64s ys) ∧ Below w.heap.size w wv) (fun v6 _ => d + 1 - lenOf v6)
              case atStart => exact ⟨E, .inl rfl, HOWN2.out, hb2⟩
              case round =>
                obtain ⟨ys, hyz, hown, hbv⟩ := hrel
                clear HOWN2 hb2
                have HYZ := hid hyz
                have HOWN := hid hown
                clear hyz
                obtain ⟨A, cap, rfl, hnc, hcm, hlen, hform⟩ := owns_form hown
                unfold maxLen at hcm
                clear hown hlen
                by_cases hys : ys.length ≤ d
                · have hE : E ++ [0] = F := by
                    rcases HYZ.out with h | h
                    · exact HSH.out (by rw [← h]; exact hys)
                    · have := HFL.out; rw [h] at hys; omega
                  have hyE : ys = E := by
                    rcases HYZ.out with h | h
                    · exact h
                    · have := HFL.out; rw [h] at hys; omega
                  have HE := hid hE
                  have HYE := hid hyE
                  clear hE hyE hform
                  go_wp2_with (at_builtin; refine wpList_append1 rfl (.tmp 47) (.tmp 48) rfl 40 (.int .u64 0) 8 Tryz.underlying28 Tryz.info45 rfl rfl rfl HOWN.out hbv.size (by rfl) (by unfold maxLen; omega) (by omega) ?_; intro v' w' ho hb3 _)
                  obtain ⟨A2, cap2, rfl, _, _, _, _⟩ := owns_form ho
                  go_roundw
                  case rel =>
                    refine ⟨F, .inr rfl, ?_, hbv.trans hb3⟩
                    have e : F.length = ys.length + 1 := by rw [← HE.out, HYE.out]; simp
                    rw [e, ← HE.out, u64s_append, ← HYE.out]
                    exact ho
                  case measure => simp [lenOf]; omega
                · have hyF : ys = F := by
                    rcases HYZ.out with h | h
                    · rw [h]; exact HLO.out (by rw [← h]; omega)
                    · exact h
                  have HYF := hid hyF
                  obtain ⟨g, rfl, hBg, hglt, hcells, hfrz⟩ := hform (by omega)
                  have hcell : wr.cell? ⟨g, d, none⟩ = some (.int .u64 ((F.getD d 0 : Nat) : Int)) := by
                    rw [hcells d (by omega), hyF]
                    exact u64s_get F d (by have := HFL.out; omega)
                  have hfr := hfrz d
                  have HFY := hid (HFB.out (F.getD d 0) (by have := HFL.out; simp [List.getD, List.getElem?_eq_getElem (show d < F.length by omega)]))
                  have HSET := hid (owns_set HOWN.out d (.int .u64 ((F.getD d 0 ||| 2 ^ s : Nat) : Int)))
                  have HOB := hid (or_u64_bit (F.getD d 0) s HFY.out hs64)
                  have HST := hid HBI.out.2
                  clear hyF hcells hfrz
                  generalize F.getD d 0 = f at *
                  cases htb : x.testBit t
                  · have HTB : Hid ((bits BinOp.and IntKind.u64 (↑x / 2 ^ t) 1 == 1) = false) := by refine hid ?_; rw [HBT2.out, htb]
                    have HNX1 := hid (HBI.out.1 htb)
                    clear htb
                    go_wp2
                    · exfalso
                      have h : (bits BinOp.and IntKind.u64 (↑x / 2 ^ t) 1 == 1) = true := by assumption
                      rw [HTB.out] at h; cases h
                    · go_roundw
                      case rel => exact ⟨t + 1, by omega, by go_num, by rw [HNX1.out, ← HYF.out]; exact HOWN.out, hbv⟩
                      case measure => simp [intOf]; omega
                  · have HTB : Hid ((bits BinOp.and IntKind.u64 (↑x / 2 ^ t) 1 == 1) = true) := by refine hid ?_; rw [HBT2.out, htb]
                    have HNX1 := hid (HST.out htb)
                    clear htb
                    go_wp2
                    · go_roundw
                      case rel =>
                        refine ⟨t + 1, by omega, by go_num, ?_, below_set hbv _ _ _ hBg⟩
                        rw [← HNX1.out, List.length_set, ← u64s_set, ← HYF.out]
                        rw [HOB.out]
                        exact HSET.out
                      case measure => simp [intOf]; omega
                    · exfalso
                      have h : (bits BinOp.and IntKind.u64 (↑x / 2 ^ t) 1 == 1) = false := by assumption
                      rw [HTB.out] at h; cases h
            · obtain rfl : t = wd := by omega
              go_wp2
              go_roundw
              case rel =>
                have hup := upTo_all t hwd l x HXW.out
                have hown := HOWN.out
                rw [hup, ← HTK.out, ← HL1.out] at hown
                exact ⟨j + 1, by omega, by go_num, hown, HYX.out HXW.out, hb'⟩
              case measure => simp [intOf]; omega
        · have HXW := hid hxw
          have HBT : Hid (decide (x < 2 ^ wd) = false) := by refine hid ?_; simpa using hxw
          clear hxw
          go_wp2_with (go_at_call 247; refine (below_any _ wd _ HVX.out (by omega)).mono ?_; rintro e w' ⟨rfl, rfl⟩; rw [HBT.out])
          go_ret2
          have hf := HNX.out HXW.out
          exact ⟨.slice none 0 0, by rw [hf]; rfl, by rw [packR, hf]; exact World.ownsRow_nil _ _ _ _, hb⟩
      · go_wp2
        go_ret2
        obtain rfl : j = xs.length := by omega
        have hok : okVals (wd : Int) xs = true := by
          simp only [okVals, okLim, Bool.and_eq_true, List.all_eq_true, decide_eq_true_eq, Int.toNat_natCast]
          refine ⟨by omega, fun x hx => ?_⟩
          obtain ⟨t, ht, rfl⟩ := List.getElem_of_mem hx
          have := HALL.out t (by omega)
          simpa [List.getD, List.getElem?_eq_getElem ht] using this
        have hpk : packR (wd : Int) xs = L.packL wd xs := by rw [packR, if_pos hok, Int.toNat_natCast]
        have hown := HOWN.out
        rw [List.take_length] at hown
        exact ⟨_, by rw [hok]; rfl, by rw [hpk]; exact hown, hb⟩
  · have hno : okVals wd xs = false := by simp [okVals, okLim]; intro a b c; omega
    go_enter Tryz.func241, Tryz.ntmps241
    go_wp2
    all_goals go_ret2
    all_goals exact ⟨.slice none 0 0, by first | rfl | (rw [hno]; rfl), by rw [packR, hno]; exact World.ownsRow_nil _ _ _ _, Below.refl _ _⟩
end Go.Proofs.YthonbfojpbfmgaaGreatDoor

/- The plain answer's Unpack. -/
set_option linter.unusedVariables false
set_option linter.unusedSimpArgs false
set_option linter.unnecessarySimpa false
set_option maxRecDepth 20000
namespace Go.Proofs.YthonbfojpbfmgaaGreatDoor
open Go.RowKit

theorem lane_bit {wd : Nat} (h0 : 0 < wd) (h : wd ≤ 64) (xs : List Nat) (j t p d s c : Nat) (hp : 64 / wd = p) (hd : j / p = d) (hs : j % p * wd + t = s) (ht : t < wd) (hs64 : s < 64) (hc : c = 64 * d + s) :
    bitOf xs c = (L.laneOf wd xs j).testBit t := by
  have h1 : c / 64 = d := by omega
  have h2 : c % 64 = s := by omega
  rw [bitOf, h1, h2]
  simp only [L.laneOf, show wd ≠ 0 from by omega, if_false, hp, hd]
  rw [Nat.testBit_mod_two_pow, Nat.testBit_div_two_pow]
  simp [ht, ← hs, Nat.add_comm]
theorem or_mod_bit (y t : Nat) (hb : y.testBit t = true) : y % 2 ^ t ||| 2 ^ t = y % 2 ^ (t + 1) := by
  rw [L.mod_succ_bit, if_pos hb, L.or_bit _ _ (Nat.mod_lt _ (Nat.pow_pos (by omega)))]
theorem get_mid (A B : List Value) (x : Value) (i : Nat) (hi : i = A.length) : (A ++ [x] ++ B)[i]? = some x := by subst hi; simp
theorem set_mid (A B : List Value) (x y : Value) (i : Nat) (hi : i = A.length) : (A ++ [x] ++ B).set i y = A ++ [y] ++ B := by subst hi; simp
theorem okVals_lanes (wd n : Nat) (hwd : wd ≤ 64) (hn : n ≤ 65536) (xs : List Nat) : okVals (wd : Int) (L.lanesL wd n xs) = true := by
  simp only [okVals, okLim, Bool.and_eq_true, List.all_eq_true, decide_eq_true_eq, Int.toNat_natCast, L.lanesL_length]
  exact ⟨by omega, fun x hx => L.lanesL_lt wd n xs x hx⟩

set_option maxHeartbeats 4000000 in
theorem refUnpack_any (v : Value) (xs : List Nat) (wd n : Int) (w : World) (hx : Rd w v xs.length 1 (u64s xs)) (hv : ∀ x ∈ xs, x < 18446744073709551616) (hl : xs.length ≤ maxLen) :
    Calls Tryz.prog 218 #[v, .int .i64 wd, .int .i64 n] w fun e w' => ∃ r, e = .returned (.tuple #[r, .bool (okPack wd n xs)]) ∧
      w'.ownsRow w.heap.size 40 1 r (unpackR wd n xs).length (u64s (unpackR wd n xs)) ∧ Below w.heap.size w w' := by
  have HLM := hid hl
  unfold maxLen at hl
  obtain ⟨A, ca, rfl, hlc, hcm, hA⟩ := hx.form
  have HX := hid hx
  clear hlc hcm hx
  by_cases hin : 0 ≤ wd ∧ wd ≤ 64 ∧ 0 ≤ n ∧ n ≤ 65536
  · obtain ⟨wd, rfl⟩ := Int.eq_ofNat_of_zero_le hin.1
    obtain ⟨n, rfl⟩ := Int.eq_ofNat_of_zero_le hin.2.2.1
    have hwd : wd ≤ 64 := by omega
    have hn : n ≤ 65536 := by omega
    clear hin
    go_enter Tryz.func218, Tryz.ntmps218
    go_wp2
    refine upon_make 40 (.int .u64 0) 8 Tryz.underlying28 Tryz.info45 rfl n (by omega) (by omega) (by omega) (by unfold maxLen; omega) ?_
    intro w1 hrow hb1 hsz1
    have HZ1 := hid hsz1
    clear hsz1
    go_wp2
    go_loopw [33] (fun i wr => ∃ j : Nat, j ≤ n ∧ i = .int .i64 j ∧ Row wr w.heap.size 40 (u64s ((L.lanesL wd n xs).take j) ++ List.replicate (n - j) (.int .u64 0)) ∧ Below w.heap.size w wr ∧ Hid (wr.heap.size = w.heap.size + 1)) (fun i _ => n - (intOf i).toNat)
    case atStart => exact ⟨0, by omega, rfl, by simpa [u64s] using hrow, hb1, HZ1⟩
    case round =>
      obtain ⟨j, hj, rfl, hr, hb, hz⟩ := hrel
      clear hrow hb1 HZ1
      have HR := hid hr
      clear hr
      by_cases hlt : j < n
      · have hll : (L.lanesL wd n xs).length = n := L.lanesL_length _ _ _
        have HTK : Hid ((L.lanesL wd n xs).take (j + 1) = (L.lanesL wd n xs).take j ++ [L.laneOf wd xs j]) := by
          refine hid ?_
          rw [List.take_succ_eq_append_getElem (by omega)]
          congr 1
          simp [L.lanesL]
        have HLT : Hid ((u64s ((L.lanesL wd n xs).take j)).length = j) := by refine hid ?_; simp [u64s]; omega
        have HY := hid (L.laneOf_lt wd xs j)
        go_wp2
        have hsplit : List.replicate (n - j) (Value.int .u64 0) = [Value.int .u64 ((L.laneOf wd xs j % 2 ^ 0 : Nat) : Int)] ++ List.replicate (n - j - 1) (Value.int .u64 0) := by
          obtain ⟨k, hk⟩ : ∃ k, n - j = k + 1 := ⟨n - j - 1, by omega⟩
          rw [hk, List.replicate_succ, Nat.pow_zero, Nat.mod_one]; rfl
        rw [hsplit, ← List.append_assoc] at HR
        clear hsplit
        generalize hAj : u64s ((L.lanesL wd n xs).take j) = Aj at *
        have HAJ := hid hAj
        clear hAj hll
        go_loopw [10] (fun i wv => ∃ t : Nat, t ≤ wd ∧ i = .int .i64 t ∧ Row wv w.heap.size 40 (Aj ++ [.int .u64 ((L.laneOf wd xs j % 2 ^ t : Nat) : Int)] ++ List.replicate (n - j - 1) (.int .u64 0)) ∧ Below w.heap.size w wv ∧ Hid (wv.heap.size = w.heap.size + 1)) (fun i _ => wd - (intOf i).toNat)
        case atStart => exact ⟨0, by omega, rfl, HR.out, hb, hz⟩
        case round =>
          obtain ⟨t, ht, rfl, hr, hb', hz'⟩ := hrel
          clear hb hz HR
          have HR := hid hr
          clear hr
          by_cases htw : t < wd
          · obtain ⟨p, hp⟩ : ∃ p, 64 / wd = p := ⟨_, rfl⟩
            have hpp := L.per_pos (w := wd) (by omega) hwd
            rw [hp] at hpp
            obtain ⟨d, hd⟩ : ∃ d, j / p = d := ⟨_, rfl⟩
            obtain ⟨s, hs⟩ : ∃ s, j % p * wd + t = s := ⟨_, rfl⟩
            have hs64 : s < 64 := by
              have h1 : (j % p + 1) * wd ≤ p * wd := Nat.mul_le_mul_right wd (Nat.mod_lt _ hpp)
              have h2 : p * wd ≤ 64 := by rw [← hp]; exact L.per_mul wd
              rw [Nat.add_mul, Nat.one_mul] at h1
              omega
            obtain ⟨c, hc⟩ : ∃ c, 64 * (j / p) + j % p * wd + t = c := ⟨_, rfl⟩
            have hdj : d ≤ j := by rw [← hd]; exact Nat.div_le_self _ _
            have hcd : c = 64 * d + s := by rw [← hc, hd, ← hs]; omega
            have HBO := hid (lane_bit (by omega) hwd xs j t p d s c hp hd hs htw hs64 hcd)
            have hcle : c ≤ 64 * 65536 + 64 := by omega
            have HC := hid hc; have HP := hid hp
            have hcell : wr.cell? ⟨w.heap.size, j, none⟩ = some (.int .u64 ((L.laneOf wd xs j % 2 ^ t : Nat) : Int)) := by
              rw [HR.out.cell]; exact get_mid _ _ _ _ HLT.out.symm
            have hfr := HR.out.frozen j
            have hy64 : L.laneOf wd xs j % 2 ^ t < 18446744073709551616 := by
              have h1 := pow_le_64 hwd
              have h2 := HY.out
              have h3 := Nat.mod_le (L.laneOf wd xs j) (2 ^ t)
              omega
            have HOR := hid (or_u64_bit (L.laneOf wd xs j % 2 ^ t) t hy64 (by omega))
            have HMB := hid (or_mod_bit (L.laneOf wd xs j) t)
            have HMN := hid (L.mod_succ_bit (L.laneOf wd xs j) t)
            clear hc hp hd hs hpp hcd
            generalize L.laneOf wd xs j = y at *
            cases htb : y.testBit t
            · have HB2 : Hid (bitOf xs c = false) := by refine hid ?_; rw [HBO.out, htb]
              have HN2 : Hid (y % 2 ^ (t + 1) = y % 2 ^ t) := by refine hid ?_; rw [HMN.out, htb]; rfl
              clear htb
              generalize hq : y % 2 ^ t = q at *
              have HQ := hid hq
              clear hq
              go_wp2_with (first
                | (go_at_call 240; refine (laneBit_any j t wd p c _ (by omega) hwd htw (by omega) HP.out HC.out).mono ?_; rintro e w2 ⟨rfl, nd, rfl⟩)
                | (go_at_call 41; refine (bitAt_any _ xs c _ (HX.out.mono (Go.below_drewN hb' nd)) hv HLM.out (by omega)).mono ?_; rintro e w2 ⟨rfl, rfl⟩; rw [HB2.out]))
              go_roundw
              case rel => exact ⟨t + 1, by omega, by go_num, by rw [HN2.out]; exact HR.out, Go.below_drewN hb' _, hz'⟩
              case measure => simp [intOf]; omega
            · have HB2 : Hid (bitOf xs c = true) := by refine hid ?_; rw [HBO.out, htb]
              have HN2 := hid (HMB.out htb)
              clear htb
              generalize hq : y % 2 ^ t = q at *
              have HQ := hid hq
              clear hq
              go_wp2_with (first
                | (go_at_call 240; refine (laneBit_any j t wd p c _ (by omega) hwd htw (by omega) HP.out HC.out).mono ?_; rintro e w2 ⟨rfl, nd, rfl⟩)
                | (go_at_call 41; refine (bitAt_any _ xs c _ (HX.out.mono (Go.below_drewN hb' nd)) hv HLM.out (by omega)).mono ?_; rintro e w2 ⟨rfl, rfl⟩; rw [HB2.out]))
              go_roundw
              case rel =>
                refine ⟨t + 1, by omega, by go_num, ?_, below_set (Go.below_drewN hb' nd) _ _ _ (Nat.le_refl _), ?_⟩
                · rw [HOR.out, HN2.out]
                  have hs2 := (HR.out.mono (Go.below_drewN (Below.refl _ wr) nd)).set j (.int .u64 ((y % 2 ^ (t + 1) : Nat) : Int))
                  rw [set_mid _ _ _ _ _ HLT.out.symm] at hs2
                  exact hs2
                · show _ = _; rw [← hz'.out]; simp [World.setCell]
              case measure => simp [intOf]; omega
          · obtain rfl : t = wd := by omega
            go_wp2
            go_roundw
            case rel =>
              refine ⟨j + 1, by omega, by go_num, ?_, hb', hz'⟩
              have hr := HR.out
              rw [Nat.mod_eq_of_lt HY.out] at hr
              rw [HTK.out, u64s_append, HAJ.out, ← Nat.sub_sub n j 1]
              exact hr
            case measure => simp [intOf]; omega
      · have hjn : j = n := by omega
        have hr := HR.out
        rw [hjn, List.take_of_length_le (by rw [L.lanesL_length]; omega), Nat.sub_self, List.replicate_zero, List.append_nil] at hr
        have HR := hid hr
        clear hr
        have hll : (L.lanesL wd n xs).length = n := L.lanesL_length _ _ _
        have hlv : ∀ x ∈ L.lanesL wd n xs, x < 18446744073709551616 := fun x hx => Nat.lt_of_lt_of_le (L.lanesL_lt wd n xs x hx) (pow_le_64 hwd)
        have hokv := okVals_lanes wd n hwd hn xs
        have hpr : packR (wd : Int) (L.lanesL wd n xs) = L.packL wd (L.lanesL wd n xs) := by rw [packR, if_pos hokv, Int.toNat_natCast]
        have hokp : okPack (wd : Int) (n : Int) xs = decide (L.packL wd (L.lanesL wd n xs) = xs) := by simp [okPack, okLim]; omega
        have HUN : Hid (L.packL wd (L.lanesL wd n xs) = xs → unpackR (wd : Int) (n : Int) xs = L.lanesL wd n xs) := by
          intro h; rw [unpackR, hokp, h]; simp
        have HUN2 : Hid (¬ L.packL wd (L.lanesL wd n xs) = xs → unpackR (wd : Int) (n : Int) xs = []) := by
          intro h; rw [unpackR, hokp]; simp [h]
        have hpl : (L.packL wd (L.lanesL wd n xs)).length ≤ 65536 := by
          rw [L.packL_length, hll]; exact Nat.le_trans (L.nWords_le hwd) hn
        have HOKP := hid hokp; have HPR := hid hpr; have HOKV := hid hokv; have HLV := hid hlv; have HLL := hid hll
        clear hokp hpr hokv hlv hll
        obtain rfl : j = n := hjn
        generalize L.lanesL wd j xs = ls at *
        by_cases hne : (L.packL wd ls).length = xs.length
        · have e1 : (((L.packL wd ls).length : Int) != (xs.length : Int)) = false := by rw [hne]; simp
          have HNE := hid hne
          clear hne
          go_wp2_with (go_at_call 241; refine (refPack_any _ ls wd _ (by rw [HLL.out]; exact Row.rd' HR.out (by simp [u64s]; exact HLL.out) (by unfold maxLen; omega)) HLV.out (by rw [HLL.out]; unfold maxLen; omega)).mono ?_; rintro e w2 ⟨r2, rfl, ho2, hb2⟩; rw [HOKV.out]; rw [HPR.out] at ho2; obtain ⟨A2, cap2, rfl, hnc2, hcm2, hlen2, hform2⟩ := owns_form ho2; have HFO2 := hid hform2; clear hform2 hlen2 ho2 hcm2 hnc2)
          have hb3 := Below.then' hb hb2 hb.size
          have HB3 := hid hb3
          have hr2 := HR.out.mono hb2
          have HOWN : Hid (w2.ownsRow w.heap.size 40 1 (.slice (some ⟨w.heap.size, 0, none⟩) j j) ls.length (u64s ls)) := by
            refine hid ?_
            have := hr2.owns (B := w.heap.size) (Nat.le_refl _) (n := j) (by simp [u64s]; exact HLL.out) (by unfold maxLen; omega)
            rw [HLL.out]; exact this
          clear hb2 hb hr2
          go_loop [70] (fun i => ∃ k : Nat, k ≤ (L.packL wd ls).length ∧ i = .int .i64 k ∧ (L.packL wd ls).take k = xs.take k) (fun i => (L.packL wd ls).length - (intOf i).toNat)
          case atStart => exact ⟨0, by omega, rfl, rfl⟩
          case round =>
            obtain ⟨k, hk, rfl, hp⟩ := hrel
            have HP := hid hp
            clear hp
            generalize hpk : L.packL wd ls = pk at *
            have HPK := hid hpk
            clear hpk
            by_cases hlt' : k < pk.length
            · have hkx : k < xs.length := by have := HNE.out; omega
              obtain ⟨b, o, rfl, hs⟩ := hA (by omega)
              obtain ⟨g2, rfl, _, _, hc2, _⟩ := HFO2.out (by omega)
              have c1 := (hs.mono HB3.out).word k hkx
              have c2 : w2.cell? ⟨g2, k, none⟩ = some (.int .u64 ((pk.getD k 0 : Nat) : Int)) := by rw [hc2 k hlt']; exact u64s_get pk k hlt'
              have HE : Hid (pk.getD k 0 = xs.getD k 0 → pk.take (k + 1) = xs.take (k + 1)) := eq_step pk xs k HNE.out HP.out hlt'
              have HF : Hid (pk.getD k 0 ≠ xs.getD k 0 → pk ≠ xs) := fun h e => h (by rw [e])
              generalize pk.getD k 0 = f1 at *
              generalize xs.getD k 0 = f2 at *
              clear hA hs hc2
              go_wp2
              · have h : ((f1 : Int) != (f2 : Int)) = true := by assumption
                go_ret2
                have hne : ¬ pk = xs := HF.out (by rw [bne_iff_ne] at h; omega)
                refine ⟨.slice none 0 0, ?_, by rw [HUN2.out hne]; exact World.ownsRow_nil _ _ _ _, HB3.out⟩
                rw [HOKP.out, decide_eq_false hne]; rfl
              · have h : ((f1 : Int) != (f2 : Int)) = false := by assumption
                go_round
                case rel => exact ⟨k + 1, by omega, by go_num, HE.out (by rw [bne_eq_false_iff_eq] at h; omega)⟩
                case measure => simp [intOf]; omega
            · go_wp2
              go_ret2
              have heq : pk = xs := by
                have h1 := HP.out
                rw [show k = pk.length from by omega, List.take_length, HNE.out, List.take_length] at h1
                exact h1
              refine ⟨.slice (some ⟨w.heap.size, 0, none⟩) j j, ?_, by rw [HUN.out heq]; exact HOWN.out, HB3.out⟩
              rw [HOKP.out, decide_eq_true heq]; rfl
        · have e1 : (((L.packL wd ls).length : Int) != (xs.length : Int)) = true := by rw [bne_iff_ne]; omega
          have hne2 : ¬ L.packL wd ls = xs := fun h => hne (by rw [h])
          have HNE := hid hne2
          clear hne hne2
          go_wp2_with (go_at_call 241; refine (refPack_any _ ls wd _ (by rw [HLL.out]; exact Row.rd' HR.out (by simp [u64s]; exact HLL.out) (by unfold maxLen; omega)) HLV.out (by rw [HLL.out]; unfold maxLen; omega)).mono ?_; rintro e w2 ⟨r2, rfl, ho2, hb2⟩; rw [HOKV.out]; rw [HPR.out] at ho2; obtain ⟨A2, cap2, rfl, hnc2, hcm2, hlen2, hform2⟩ := owns_form ho2; have HFO2 := hid hform2; clear hform2 hlen2 ho2 hcm2 hnc2)
          have hb3 := Below.then' hb hb2 hb.size
          have HB3 := hid hb3
          have hr2 := HR.out.mono hb2
          have HOWN : Hid (w2.ownsRow w.heap.size 40 1 (.slice (some ⟨w.heap.size, 0, none⟩) j j) ls.length (u64s ls)) := by
            refine hid ?_
            have := hr2.owns (B := w.heap.size) (Nat.le_refl _) (n := j) (by simp [u64s]; exact HLL.out) (by unfold maxLen; omega)
            rw [HLL.out]; exact this
          clear hb2 hb hr2
          go_ret2
          refine ⟨.slice none 0 0, ?_, by rw [HUN2.out HNE.out]; exact World.ownsRow_nil _ _ _ _, HB3.out⟩
          rw [HOKP.out, decide_eq_false HNE.out]; rfl
  · have hno : okPack wd n xs = false := okPack_not xs hin
    have hf : unpackR wd n xs = [] := by rw [unpackR, hno]; rfl
    have HO := hid hno
    have HF := hid hf
    clear hno hf
    go_enter Tryz.func218, Tryz.ntmps218
    go_wp2
    all_goals go_ret2
    all_goals exact ⟨.slice none 0 0, by rw [HO.out]; rfl, by rw [HF.out]; exact World.ownsRow_nil _ _ _ _, Below.refl _ _⟩
end Go.Proofs.YthonbfojpbfmgaaGreatDoor

/- Bitmaps as plain mathematics: lanes of width 1. -/
set_option maxRecDepth 512
set_option linter.unusedVariables false
set_option linter.unusedSimpArgs false
set_option linter.unnecessarySimpa false
namespace Go.Proofs.YthonbfojpbfmgaaGreatDoor

/-- the bitmap of a list of flags -/
def bmL (fl : List Bool) : List Nat := L.packL 1 (fl.map Bool.toNat)
/-- ws is the bitmap of n bits of which f tells -/
def IsBm (n : Nat) (ws : List Nat) (f : Nat → Bool) : Prop := ws.length = L.nWords 1 n ∧ (∀ x ∈ ws, x < 18446744073709551616) ∧ ∀ i, i < 64 * ws.length → bitOf ws i = (decide (i < n) && f i)

theorem nWords1 (n : Nat) : L.nWords 1 n = (n + 63) / 64 := by simp [L.nWords]
theorem nWords1_le (n : Nat) : n ≤ 64 * L.nWords 1 n := by rw [nWords1]; omega
theorem bitOf_out (ws : List Nat) (i : Nat) (h : 64 * ws.length ≤ i) : bitOf ws i = false := by
  unfold bitOf
  rw [L.getD_out (i / 64) (by omega)]; simp
theorem bm_ext {a b : List Nat} (hl : a.length = b.length) (ha : ∀ x ∈ a, x < 18446744073709551616) (hb : ∀ x ∈ b, x < 18446744073709551616) (h : ∀ i, i < 64 * a.length → bitOf a i = bitOf b i) : a = b := by
  apply L.ext_getD hl
  intro k hk
  apply Nat.eq_of_testBit_eq
  intro p
  have hx : a.getD k 0 < 2 ^ 64 := by apply ha; simp [List.getD, List.getElem?_eq_getElem hk]
  have hy : b.getD k 0 < 2 ^ 64 := by apply hb; simp [List.getD, List.getElem?_eq_getElem (show k < b.length by omega)]
  by_cases hp : p < 64
  · have := h (64 * k + p) (by omega)
    unfold bitOf at this
    rw [show (64 * k + p) / 64 = k from by omega, show (64 * k + p) % 64 = p from by omega] at this
    exact this
  · rw [Nat.testBit_lt_two_pow (Nat.lt_of_lt_of_le hx (Nat.pow_le_pow_right (by omega) (by omega))), Nat.testBit_lt_two_pow (Nat.lt_of_lt_of_le hy (Nat.pow_le_pow_right (by omega) (by omega)))]
theorem IsBm.unique {n : Nat} {a b : List Nat} {f : Nat → Bool} (ha : IsBm n a f) (hb : IsBm n b f) : a = b :=
  bm_ext (ha.1.trans hb.1.symm) ha.2.1 hb.2.1 fun i hi => by rw [ha.2.2 i hi, hb.2.2 i (by rw [hb.1, ← ha.1]; exact hi)]

theorem laneOf_one (ws : List Nat) (i : Nat) : L.laneOf 1 ws i = (bitOf ws i).toNat := by
  unfold L.laneOf bitOf
  rw [if_neg (by omega), Nat.div_one, Nat.mul_one, Nat.pow_one, Nat.testBit_eq_decide_div_mod_eq]
  have : ws.getD (i / 64) 0 / 2 ^ (i % 64) % 2 = 0 ∨ ws.getD (i / 64) 0 / 2 ^ (i % 64) % 2 = 1 := by omega
  rcases this with h | h <;> rw [h] <;> rfl
theorem toNat_inj {a b : Bool} (h : a.toNat = b.toNat) : a = b := by cases a <;> cases b <;> simp_all
theorem toNat_lt (fl : List Bool) : ∀ x ∈ fl.map Bool.toNat, x < 2 ^ 1 := by
  intro x hx; obtain ⟨b, _, rfl⟩ := List.mem_map.1 hx; cases b <;> decide
theorem isPack_lt {w n : Nat} {ws : List Nat} (h : L.IsPack w n ws) : ∀ x ∈ ws, x < 18446744073709551616 := by
  intro x hx
  obtain ⟨k, hk, rfl⟩ := List.getElem_of_mem hx
  have h1 := h.2 k hk
  have h2 := pow_le_64 (L.inWord_le w n k)
  simp only [List.getD, List.getElem?_eq_getElem hk, Option.getD_some] at h1
  omega
/-- a packing of lanes of width 1 has no bit beyond its lanes -/
theorem isPack_beyond {n : Nat} {ws : List Nat} (h : L.IsPack 1 n ws) (i : Nat) (hi : n ≤ i) : bitOf ws i = false := by
  by_cases hl : i / 64 < ws.length
  · have h1 := h.2 (i / 64) hl
    unfold bitOf
    apply Nat.testBit_lt_two_pow
    refine Nat.lt_of_lt_of_le h1 (Nat.pow_le_pow_right (by omega) ?_)
    unfold L.inWord; omega
  · exact bitOf_out ws i (by omega)
theorem bmL_isBm (fl : List Bool) : IsBm fl.length (bmL fl) (fun i => fl.getD i false) := by
  have hpk := L.pack_isPack (w := 1) (by omega) (fl.map Bool.toNat) (toNat_lt fl)
  rw [List.length_map] at hpk
  refine ⟨hpk.1, isPack_lt hpk, fun i _ => ?_⟩
  by_cases hi : i < fl.length
  · have h1 := L.lanes_pack (w := 1) (by omega) (fl.map Bool.toNat) (toNat_lt fl)
    have h2 := L.lanesL_get 1 (fl.map Bool.toNat).length (bmL fl) i (by simpa using hi)
    have h3 : (L.lanesL 1 (fl.map Bool.toNat).length (bmL fl)) = fl.map Bool.toNat := h1
    rw [h3, laneOf_one] at h2
    have h4 : (fl.map Bool.toNat).getD i 0 = (fl.getD i false).toNat := by simp [List.getD, List.getElem?_eq_getElem hi]
    rw [h4] at h2
    simp only [hi, decide_true, Bool.true_and]
    exact (toNat_inj h2).symm
  · have hz := isPack_beyond hpk i (by omega)
    unfold bmL; rw [hz]; simp [hi]
theorem IsBm.eq_bmL {n : Nat} {a : List Nat} {f : Nat → Bool} (ha : IsBm n a f) : a = bmL ((List.range n).map f) := by
  apply ha.unique
  have h := bmL_isBm ((List.range n).map f)
  rw [List.length_map, List.length_range] at h
  refine ⟨h.1, h.2.1, fun i hi => ?_⟩
  rw [h.2.2 i hi]
  by_cases hin : i < n
  · simp [hin, List.getD, List.getElem?_range hin]
  · simp [hin]
/-- one bit set -/
theorem bitOf_set (ws : List Nat) (i : Nat) (hi : i < 64 * ws.length) (j : Nat) : bitOf (ws.set (i / 64) (ws.getD (i / 64) 0 ||| 2 ^ (i % 64))) j = (bitOf ws j || decide (j = i)) := by
  unfold bitOf
  have hl : i / 64 < ws.length := by omega
  by_cases hk : j / 64 = i / 64
  · have e : (ws.set (i / 64) (ws.getD (i / 64) 0 ||| 2 ^ (i % 64))).getD (j / 64) 0 = ws.getD (i / 64) 0 ||| 2 ^ (i % 64) := by
      rw [hk]; simp [List.getD, hl]
    rw [e, Nat.testBit_or, Nat.testBit_two_pow, hk]
    congr 1
    rw [decide_eq_decide]; omega
  · have e : (ws.set (i / 64) (ws.getD (i / 64) 0 ||| 2 ^ (i % 64))).getD (j / 64) 0 = ws.getD (j / 64) 0 := by
      simp only [List.getD]; rw [List.getElem?_set_ne (by omega)]
    have : ¬ j = i := fun h => hk (by rw [h])
    rw [e]; simp [this]
theorem set_lt64 (ws : List Nat) (hw : ∀ x ∈ ws, x < 18446744073709551616) (i : Nat) : ∀ x ∈ ws.set (i / 64) (ws.getD (i / 64) 0 ||| 2 ^ (i % 64)), x < 18446744073709551616 := by
  intro x hx
  rcases List.mem_or_eq_of_mem_set hx with h | h
  · exact hw x h
  · rw [h]
    have h1 : ws.getD (i / 64) 0 < 2 ^ 64 := L.getD_lt (w := 64) (fun a ha => by have := hw a ha; omega) (i / 64)
    have h2 : 2 ^ (i % 64) < 2 ^ 64 := Nat.pow_lt_pow_right (by omega) (by omega)
    have := Nat.or_lt_two_pow h1 h2
    omega

/-- the lowest set bit -/
theorem ctz_form (x : Nat) (h0 : x ≠ 0) (h : x < 18446744073709551616) : ∃ m, x = 2 ^ Lib.ctz 64 x + 2 ^ (Lib.ctz 64 x + 1) * m ∧ Lib.ctz 64 x < 64 := by
  obtain ⟨m, hm, hk⟩ := Lib.ctzFrom_spec 64 x (by omega) (by omega)
  have e : Lib.ctz 64 x = Lib.ctzFrom 64 x := by simp [Lib.ctz, h0]
  rw [e]
  refine ⟨m, ?_, hk⟩
  conv => lhs; rw [hm]
  rw [Nat.mul_add, Nat.mul_one, Nat.pow_succ, Nat.mul_assoc, Nat.add_comm]
theorem clear_lowest (x : Nat) (h0 : x ≠ 0) (h : x < 18446744073709551616) (p : Nat) : (x &&& (x - 1)).testBit p = (x.testBit p && decide (p ≠ Lib.ctz 64 x)) ∧ x.testBit (Lib.ctz 64 x) = true ∧ (x &&& (x - 1)) < x := by
  obtain ⟨m, hm, hk⟩ := ctz_form x h0 h
  generalize Lib.ctz 64 x = t at *
  have hp : 0 < 2 ^ t := Nat.pow_pos (by omega)
  have hlt : 2 ^ t < 2 ^ (t + 1) := Nat.pow_lt_pow_right (by omega) (by omega)
  have hand : x &&& (x - 1) = 2 ^ (t + 1) * m := by
    rw [show x - 1 = (2 ^ t - 1) + 2 ^ (t + 1) * m from by omega]
    conv => lhs; rw [hm]
    rw [L.and_join (t + 1) _ _ m m hlt (by omega), Nat.and_self]
    have : 2 ^ t &&& (2 ^ t - 1) = 0 := by rw [Nat.and_two_pow_sub_one_eq_mod, Nat.mod_self]
    rw [this, Nat.zero_add]
  have hb : ∀ q, x.testBit q = if q < t + 1 then decide (t = q) else m.testBit (q - (t + 1)) := by
    intro q; rw [hm, Nat.add_comm, Nat.testBit_two_pow_mul_add _ hlt, Nat.testBit_two_pow]
  refine ⟨?_, by rw [hb]; simp, by rw [hand]; omega⟩
  rw [hand, hb, show 2 ^ (t + 1) * m = 2 ^ (t + 1) * m + 0 from rfl, Nat.testBit_two_pow_mul_add _ (Nat.pow_pos (by omega))]
  by_cases hq : p < t + 1
  · rw [if_pos hq, if_pos hq]
    by_cases ht : t = p
    · simp [ht]
    · simp [ht]
  · rw [if_neg hq, if_neg hq]
    have : p ≠ t := by omega
    simp [this]
end Go.Proofs.YthonbfojpbfmgaaGreatDoor
