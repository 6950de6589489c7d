/- The plain answer's Pack. -/
import Derived.Test.YtdlkdiaobbakiaaGreatDoorRefa
import Derived.Test.YtdlkdiaobbakiaaGreatDoorBvb
set_option linter.unusedVariables false
set_option linter.unusedSimpArgs false
set_option linter.unnecessarySimpa false
set_option maxRecDepth 20000
namespace Go.Proofs.YtdlkdiaobbakiaaGreatDoor
open Go.RowKit

/-- the words after the lanes l and the first t bits of x -/
def upTo (wd : Nat) (l : List Nat) (x t : Nat) : List Nat := L.packL wd (l ++ if t = 0 then [] else [x % 2 ^ t])
theorem upTo_zero (wd : Nat) (l : List Nat) (x : Nat) : upTo wd l x 0 = L.packL wd l := by simp [upTo]
theorem upTo_all (wd : Nat) (h : wd ≤ 64) (l : List Nat) (x : Nat) (hx : x < 2 ^ wd) : upTo wd l x wd = L.packL wd (l ++ [x]) := by
  unfold upTo
  by_cases h0 : wd = 0
  · subst h0; simp [L.packL_zero]
  · rw [if_neg h0, Nat.mod_eq_of_lt hx]
theorem upTo_long {wd : Nat} (h0 : 0 < wd) (h : wd ≤ 64) (l : List Nat) (x t : Nat) (hl : l.length / (64 / wd) < (upTo wd l x t).length) : upTo wd l x t = L.packL wd (l ++ [x % 2 ^ t]) := by
  by_cases ht : t = 0
  · subst ht
    rw [upTo_zero] at hl ⊢
    rw [Nat.pow_zero, Nat.mod_one, L.packL_snoc_zero h0 h l hl]
  · simp [upTo, ht]
theorem upTo_short {wd : Nat} (h0 : 0 < wd) (h : wd ≤ 64) (l : List Nat) (x t : Nat) (hl : (upTo wd l x t).length ≤ l.length / (64 / wd)) : upTo wd l x t ++ [0] = L.packL wd (l ++ [x % 2 ^ t]) := by
  by_cases ht : t = 0
  · subst ht
    rw [upTo_zero] at hl ⊢
    rw [Nat.pow_zero, Nat.mod_one, L.packL_snoc_zero_new h0 h l hl]
  · exfalso
    simp only [upTo, ht, if_false] at hl
    rw [L.packL_snoc_length h0 h] at hl
    omega
theorem upTo_bit {wd : Nat} (h0 : 0 < wd) (h : wd ≤ 64) (l : List Nat) (hl : ∀ x ∈ l, x < 2 ^ wd) (x t : Nat) :
    (x.testBit t = false → upTo wd l x (t + 1) = L.packL wd (l ++ [x % 2 ^ t])) ∧
    (x.testBit t = true → (L.packL wd (l ++ [x % 2 ^ t])).set (l.length / (64 / wd)) ((L.packL wd (l ++ [x % 2 ^ t])).getD (l.length / (64 / wd)) 0 ||| 2 ^ (l.length % (64 / wd) * wd + t)) = upTo wd l x (t + 1)) := by
  refine ⟨fun hb => ?_, fun hb => ?_⟩
  · simp [upTo, L.mod_succ_bit, hb]
  · rw [L.packL_bit h0 h l hl x t hb]; simp [upTo]

theorem u64s_set (ys : List Nat) (i n : Nat) : (u64s ys).set i (.int .u64 (n : Int)) = u64s (ys.set i n) := by simp [u64s, u64, List.map_set]
theorem or_u64_bit (a s : Nat) (ha : a < 18446744073709551616) (hs : s < 64) : bits BinOp.or IntKind.u64 (a : Int) (IntKind.u64.wrap (2 ^ s)) = ((a ||| 2 ^ s : Nat) : Int) := by
  have h : 2 ^ s < 18446744073709551616 := by
    have : 2 ^ s ≤ 2 ^ 63 := Nat.pow_le_pow_right (by omega) (by omega)
    omega
  have e : ((2 : Int) ^ s) = ((2 ^ s : Nat) : Int) := by simp
  rw [e, wrap_u64_nat _ h, u64_or_nat _ _ ha h]

set_option maxHeartbeats 4000000 in
theorem refPack_any (v : Value) (xs : List Nat) (wd : Int) (w : World) (hx : Rd w v xs.length 1 (u64s xs)) (hv : ∀ x ∈ xs, x < 18446744073709551616) (hl : xs.length ≤ maxLen) :
    Calls Tryz.prog 89 #[v, .int .i64 wd] w fun e w' => ∃ r, e = .returned (.tuple #[r, .bool (okVals wd xs)]) ∧
      w'.ownsRow w.heap.size 68 1 r (packR wd xs).length (u64s (packR wd xs)) ∧ Below w.heap.size w w' := by
  unfold maxLen at hl
  obtain ⟨A, ca, rfl, hlc, hcm, hA⟩ := hx.form
  clear hlc hcm hx
  by_cases hin : 0 ≤ wd ∧ wd ≤ 64 ∧ xs.length ≤ 65536
  · obtain ⟨wd, rfl⟩ := Int.eq_ofNat_of_zero_le hin.1
    have hwd : wd ≤ 64 := by omega
    have hn : xs.length ≤ 65536 := by omega
    clear hin
    go_enter Tryz.func89, Tryz.ntmps89
    go_wp2
    go_loopw [6, 24] (fun v6 i wr => ∃ j : Nat, j ≤ xs.length ∧ i = .int .i64 j ∧ wr.ownsRow w.heap.size 68 1 v6 (L.packL wd (xs.take j)).length (u64s (L.packL wd (xs.take j))) ∧ (∀ t, t < j → xs.getD t 0 < 2 ^ wd) ∧ Below w.heap.size w wr) (fun _ i _ => xs.length - (intOf i).toNat)
    case atStart => exact ⟨0, by omega, rfl, by simpa [L.packL_nil wd hwd, u64s] using World.ownsRow_nil _ _ _ _, fun t h => absurd h (Nat.not_lt_zero t), Below.refl _ _⟩
    case round =>
      obtain ⟨j, hj, rfl, hown, hall, hb⟩ := hrel
      have HALL := hid hall
      have HOWN := hid hown
      clear hall hown
      by_cases hlt : j < xs.length
      · obtain ⟨b, o, rfl, hs⟩ := hA (by omega)
        have c1 := (hs.mono (hb.mono (Nat.le_refl _))).word j hlt
        have hvx := hv (xs.getD j 0) (by simp [List.getD, List.getElem?_eq_getElem hlt])
        have HVX := hid hvx
        have HTK : Hid (xs.take (j + 1) = xs.take j ++ [xs.getD j 0]) := by
          refine hid ?_; rw [List.take_succ_eq_append_getElem hlt]; simp [List.getD, List.getElem?_eq_getElem hlt]
        have HLL : Hid ((xs.take j).length = j) := by refine hid ?_; rw [List.length_take]; omega
        have HLV : Hid (∀ x ∈ xs.take j, x < 2 ^ wd) := by
          intro x hx
          obtain ⟨t, ht, rfl⟩ := List.getElem_of_mem hx
          have h2 : t < j := by rw [List.length_take] at ht; omega
          have := HALL.out t h2
          simpa [List.getD, List.getElem?_eq_getElem (show t < xs.length by omega)] using this
        have HNX : Hid (¬ xs.getD j 0 < 2 ^ wd → okVals (wd : Int) xs = false) := by
          intro h
          rw [← Bool.not_eq_true]
          intro hp
          simp only [okVals, Bool.and_eq_true, List.all_eq_true, decide_eq_true_eq, Int.toNat_natCast] at hp
          exact h (hp.2 (xs.getD j 0) (by simp [List.getD, List.getElem?_eq_getElem hlt]))
        have HYX : Hid (xs.getD j 0 < 2 ^ wd → ∀ t, t < j + 1 → xs.getD t 0 < 2 ^ wd) := by
          intro h t ht
          by_cases htk : t = j
          · subst htk; exact h
          · exact HALL.out t (by omega)
        clear hs hvx HALL hA
        generalize xs.getD j 0 = x at *
        generalize hl1 : xs.take (j + 1) = l1 at *
        have HL1 := hid hl1
        clear hl1
        generalize xs.take j = l at *
        by_cases hxw : x < 2 ^ wd
        · have HXW := hid hxw
          have HBT : Hid (decide (x < 2 ^ wd) = true) := by refine hid ?_; simpa using hxw
          clear hxw
          go_wp2_with (go_at_call 128; refine (below_any _ wd _ HVX.out (by omega)).mono ?_; rintro e w' ⟨rfl, rfl⟩; rw [HBT.out])
          go_loopw [6, 9] (fun v6 i wr => ∃ t : Nat, t ≤ wd ∧ i = .int .i64 t ∧ wr.ownsRow w.heap.size 68 1 v6 (upTo wd l x t).length (u64s (upTo wd l x t)) ∧ Below w.heap.size w wr) (fun _ i _ => wd - (intOf i).toNat)
          case atStart => exact ⟨0, by omega, rfl, by rw [upTo_zero]; exact HOWN.out, hb⟩
          case round =>
            obtain ⟨t, ht, rfl, hown, hb'⟩ := hrel
            clear hb c1 HOWN
            have HOWN := hid hown
            clear hown
            by_cases htw : t < wd
            · obtain ⟨p, hp⟩ : ∃ p, 64 / wd = p := ⟨_, rfl⟩
              have hpp := L.per_pos (w := wd) (by omega) hwd
              rw [hp] at hpp
              obtain ⟨d, hd⟩ : ∃ d, j / p = d := ⟨_, rfl⟩
              obtain ⟨s, hs⟩ : ∃ s, j % p * wd + t = s := ⟨_, rfl⟩
              have hs64 : s < 64 := by
                have h1 : (j % p + 1) * wd ≤ p * wd := Nat.mul_le_mul_right wd (Nat.mod_lt _ hpp)
                have h2 : p * wd ≤ 64 := by rw [← hp]; exact L.per_mul wd
                rw [Nat.add_mul, Nat.one_mul] at h1
                omega
              obtain ⟨c, hc⟩ : ∃ c, 64 * (j / p) + j % p * wd + t = c := ⟨_, rfl⟩
              have hdj : d ≤ j := by rw [← hd]; exact Nat.div_le_self _ _
              have hcd : c = 64 * d + s := by rw [← hc, hd, ← hs]; omega
              have hc1 : (c : Int) / 64 = (d : Int) := by omega
              have hc2 : (c : Int) % 64 = (s : Int) := by omega
              have HC := hid hc; have HP := hid hp
              have HSH := hid (upTo_short (wd := wd) (by omega) hwd l x t)
              have HLO := hid (upTo_long (wd := wd) (by omega) hwd l x t)
              have HBI := hid (upTo_bit (wd := wd) (by omega) hwd l HLV.out x t)
              have HFL : Hid ((L.packL wd (l ++ [x % 2 ^ t])).length = d + 1) := by refine hid ?_; rw [L.packL_snoc_length (by omega) hwd, HLL.out, hp, hd]
              rw [HLL.out, hp, hd] at HSH HLO HBI
              rw [hs] at HBI
              have HFB : Hid (∀ y ∈ L.packL wd (l ++ [x % 2 ^ t]), y < 18446744073709551616) := by
                intro y hy
                obtain ⟨k, hk, rfl⟩ := List.getElem_of_mem hy
                have hlv : ∀ z ∈ l ++ [x % 2 ^ t], z < 2 ^ wd := by
                  intro z hz
                  rcases List.mem_append.1 hz with h | h
                  · exact HLV.out z h
                  · simp at h; subst h; exact Nat.lt_of_le_of_lt (Nat.mod_le _ _) HXW.out
                have h1 := (L.pack_isPack hwd _ hlv).2 k hk
                have h2 := pow_le_64 (L.inWord_le wd (l ++ [x % 2 ^ t]).length k)
                simp only [List.getD, List.getElem?_eq_getElem hk, Option.getD_some] at h1
                omega
              have HBT2 := hid (bit_test x t HVX.out)
              clear hc hp hd hs hcd hpp
              generalize L.packL wd (l ++ [x % 2 ^ t]) = F at *
              generalize upTo wd l x t = E at *
              go_wp2_with (go_at_call 129; refine (laneBit_any j t wd p c _ (by omega) hwd htw (by omega) HP.out HC.out).mono ?_; rintro e w2 ⟨rfl, nd, rfl⟩)
              have HOWN2 := hid (owns_below HOWN.out (Go.below_drewN (Below.refl _ wr) nd))
              have hb2 := Go.below_drewN hb' nd
              clear HOWN hb'
              generalize hwr2 : wr.drewN nd = wr2 at *
              clear hwr2
              go_loopw [6] (fun v6 wv => ∃ ys : List Nat, (ys = E ∨ ys = F) ∧ wv.ownsRow w.heap.size 68 1 v6 ys.length (u64s ys) ∧ Below w.heap.size w wv) (fun v6 _ => d + 1 - lenOf v6)
              case atStart => exact ⟨E, .inl rfl, HOWN2.out, hb2⟩
              case round =>
                obtain ⟨ys, hyz, hown, hbv⟩ := hrel
                clear HOWN2 hb2
                have HYZ := hid hyz
                have HOWN := hid hown
                clear hyz
                obtain ⟨A, cap, rfl, hnc, hcm, hlen, hform⟩ := owns_form hown
                unfold maxLen at hcm
                clear hown hlen
                by_cases hys : ys.length ≤ d
                · have hE : E ++ [0] = F := by
                    rcases HYZ.out with h | h
                    · exact HSH.out (by rw [← h]; exact hys)
                    · have := HFL.out; rw [h] at hys; omega
                  have hyE : ys = E := by
                    rcases HYZ.out with h | h
                    · exact h
                    · have := HFL.out; rw [h] at hys; omega
                  have HE := hid hE
                  have HYE := hid hyE
                  clear hE hyE hform
                  go_wp2_with (at_builtin; refine wpList_append1 rfl (.tmp 47) (.tmp 48) rfl 68 (.int .u64 0) 8 Tryz.underlying47 Tryz.info45 rfl rfl rfl HOWN.out hbv.size (by rfl) (by unfold maxLen; omega) (by omega) ?_; intro v' w' ho hb3 _)
                  obtain ⟨A2, cap2, rfl, _, _, _, _⟩ := owns_form ho
                  go_roundw
                  case rel =>
                    refine ⟨F, .inr rfl, ?_, hbv.trans hb3⟩
                    have e : F.length = ys.length + 1 := by rw [← HE.out, HYE.out]; simp
                    rw [e, ← HE.out, u64s_append, ← HYE.out]
                    exact ho
                  case measure => simp [lenOf]; omega
                · have hyF : ys = F := by
                    rcases HYZ.out with h | h
                    · rw [h]; exact HLO.out (by rw [← h]; omega)
                    · exact h
                  have HYF := hid hyF
                  obtain ⟨g, rfl, hBg, hglt, hcells, hfrz⟩ := hform (by omega)
                  have hcell : wr.cell? ⟨g, d, none⟩ = some (.int .u64 ((F.getD d 0 : Nat) : Int)) := by
                    rw [hcells d (by omega), hyF]
                    exact u64s_get F d (by have := HFL.out; omega)
                  have hfr := hfrz d
                  have HFY := hid (HFB.out (F.getD d 0) (by have := HFL.out; simp [List.getD, List.getElem?_eq_getElem (show d < F.length by omega)]))
                  have HSET := hid (owns_set HOWN.out d (.int .u64 ((F.getD d 0 ||| 2 ^ s : Nat) : Int)))
                  have HOB := hid (or_u64_bit (F.getD d 0) s HFY.out hs64)
                  have HST := hid HBI.out.2
                  clear hyF hcells hfrz
                  generalize F.getD d 0 = f at *
                  cases htb : x.testBit t
                  · have HTB : Hid ((bits BinOp.and IntKind.u64 (↑x / 2 ^ t) 1 == 1) = false) := by refine hid ?_; rw [HBT2.out, htb]
                    have HNX1 := hid (HBI.out.1 htb)
                    clear htb
                    go_wp2
                    · exfalso
                      have h : (bits BinOp.and IntKind.u64 (↑x / 2 ^ t) 1 == 1) = true := by assumption
                      rw [HTB.out] at h; cases h
                    · go_roundw
                      case rel => exact ⟨t + 1, by omega, by go_num, by rw [HNX1.out, ← HYF.out]; exact HOWN.out, hbv⟩
                      case measure => simp [intOf]; omega
                  · have HTB : Hid ((bits BinOp.and IntKind.u64 (↑x / 2 ^ t) 1 == 1) = true) := by refine hid ?_; rw [HBT2.out, htb]
                    have HNX1 := hid (HST.out htb)
                    clear htb
                    go_wp2
                    · go_roundw
                      case rel =>
                        refine ⟨t + 1, by omega, by go_num, ?_, below_set hbv _ _ _ hBg⟩
                        rw [← HNX1.out, List.length_set, ← u64s_set, ← HYF.out]
                        rw [HOB.out]
                        exact HSET.out
                      case measure => simp [intOf]; omega
                    · exfalso
                      have h : (bits BinOp.and IntKind.u64 (↑x / 2 ^ t) 1 == 1) = false := by assumption
                      rw [HTB.out] at h; cases h
            · obtain rfl : t = wd := by omega
              go_wp2
              go_roundw
              case rel =>
                have hup := upTo_all t hwd l x HXW.out
                have hown := HOWN.out
                rw [hup, ← HTK.out, ← HL1.out] at hown
                exact ⟨j + 1, by omega, by go_num, hown, HYX.out HXW.out, hb'⟩
              case measure => simp [intOf]; omega
        · have HXW := hid hxw
          have HBT : Hid (decide (x < 2 ^ wd) = false) := by refine hid ?_; simpa using hxw
          clear hxw
          go_wp2_with (go_at_call 128; refine (below_any _ wd _ HVX.out (by omega)).mono ?_; rintro e w' ⟨rfl, rfl⟩; rw [HBT.out])
          go_ret2
          have hf := HNX.out HXW.out
          exact ⟨.slice none 0 0, by rw [hf]; rfl, by rw [packR, hf]; exact World.ownsRow_nil _ _ _ _, hb⟩
      · go_wp2
        go_ret2
        obtain rfl : j = xs.length := by omega
        have hok : okVals (wd : Int) xs = true := by
          simp only [okVals, okLim, Bool.and_eq_true, List.all_eq_true, decide_eq_true_eq, Int.toNat_natCast]
          refine ⟨by omega, fun x hx => ?_⟩
          obtain ⟨t, ht, rfl⟩ := List.getElem_of_mem hx
          have := HALL.out t (by omega)
          simpa [List.getD, List.getElem?_eq_getElem ht] using this
        have hpk : packR (wd : Int) xs = L.packL wd xs := by rw [packR, if_pos hok, Int.toNat_natCast]
        have hown := HOWN.out
        rw [List.take_length] at hown
        exact ⟨_, by rw [hok]; rfl, by rw [hpk]; exact hown, hb⟩
  · have hno : okVals wd xs = false := by simp [okVals, okLim]; intro a b c; omega
    go_enter Tryz.func89, Tryz.ntmps89
    go_wp2
    all_goals go_ret2
    all_goals exact ⟨.slice none 0 0, by first | rfl | (rw [hno]; rfl), by rw [packR, hno]; exact World.ownsRow_nil _ _ _ _, Below.refl _ _⟩
end Go.Proofs.YtdlkdiaobbakiaaGreatDoor
