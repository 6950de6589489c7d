/- The plain answer's Unpack. -/
import Derived.Test.YtdlkdiaobbakiaaGreatDoorRefb
set_option linter.unusedVariables false
set_option linter.unusedSimpArgs false
set_option linter.unnecessarySimpa false
set_option maxRecDepth 20000
namespace Go.Proofs.YtdlkdiaobbakiaaGreatDoor
open Go.RowKit

theorem lane_bit {wd : Nat} (h0 : 0 < wd) (h : wd ≤ 64) (xs : List Nat) (j t p d s c : Nat) (hp : 64 / wd = p) (hd : j / p = d) (hs : j % p * wd + t = s) (ht : t < wd) (hs64 : s < 64) (hc : c = 64 * d + s) :
    bitOf xs c = (L.laneOf wd xs j).testBit t := by
  have h1 : c / 64 = d := by omega
  have h2 : c % 64 = s := by omega
  rw [bitOf, h1, h2]
  simp only [L.laneOf, show wd ≠ 0 from by omega, if_false, hp, hd]
  rw [Nat.testBit_mod_two_pow, Nat.testBit_div_two_pow]
  simp [ht, ← hs, Nat.add_comm]
theorem or_mod_bit (y t : Nat) (hb : y.testBit t = true) : y % 2 ^ t ||| 2 ^ t = y % 2 ^ (t + 1) := by
  rw [L.mod_succ_bit, if_pos hb, L.or_bit _ _ (Nat.mod_lt _ (Nat.pow_pos (by omega)))]
theorem get_mid (A B : List Value) (x : Value) (i : Nat) (hi : i = A.length) : (A ++ [x] ++ B)[i]? = some x := by subst hi; simp
theorem set_mid (A B : List Value) (x y : Value) (i : Nat) (hi : i = A.length) : (A ++ [x] ++ B).set i y = A ++ [y] ++ B := by subst hi; simp
theorem okVals_lanes (wd n : Nat) (hwd : wd ≤ 64) (hn : n ≤ 65536) (xs : List Nat) : okVals (wd : Int) (L.lanesL wd n xs) = true := by
  simp only [okVals, okLim, Bool.and_eq_true, List.all_eq_true, decide_eq_true_eq, Int.toNat_natCast, L.lanesL_length]
  exact ⟨by omega, fun x hx => L.lanesL_lt wd n xs x hx⟩

set_option maxHeartbeats 4000000 in
theorem refUnpack_any (v : Value) (xs : List Nat) (wd n : Int) (w : World) (hx : Rd w v xs.length 1 (u64s xs)) (hv : ∀ x ∈ xs, x < 18446744073709551616) (hl : xs.length ≤ maxLen) :
    Calls Tryz.prog 110 #[v, .int .i64 wd, .int .i64 n] w fun e w' => ∃ r, e = .returned (.tuple #[r, .bool (okPack wd n xs)]) ∧
      w'.ownsRow w.heap.size 68 1 r (unpackR wd n xs).length (u64s (unpackR wd n xs)) ∧ Below w.heap.size w w' := by
  have HLM := hid hl
  unfold maxLen at hl
  obtain ⟨A, ca, rfl, hlc, hcm, hA⟩ := hx.form
  have HX := hid hx
  clear hlc hcm hx
  by_cases hin : 0 ≤ wd ∧ wd ≤ 64 ∧ 0 ≤ n ∧ n ≤ 65536
  · obtain ⟨wd, rfl⟩ := Int.eq_ofNat_of_zero_le hin.1
    obtain ⟨n, rfl⟩ := Int.eq_ofNat_of_zero_le hin.2.2.1
    have hwd : wd ≤ 64 := by omega
    have hn : n ≤ 65536 := by omega
    clear hin
    go_enter Tryz.func110, Tryz.ntmps110
    go_wp2
    refine upon_make 68 (.int .u64 0) 8 Tryz.underlying47 Tryz.info45 rfl n (by omega) (by omega) (by omega) (by unfold maxLen; omega) ?_
    intro w1 hrow hb1 hsz1
    have HZ1 := hid hsz1
    clear hsz1
    go_wp2
    go_loopw [33] (fun i wr => ∃ j : Nat, j ≤ n ∧ i = .int .i64 j ∧ Row wr w.heap.size 68 (u64s ((L.lanesL wd n xs).take j) ++ List.replicate (n - j) (.int .u64 0)) ∧ Below w.heap.size w wr ∧ Hid (wr.heap.size = w.heap.size + 1)) (fun i _ => n - (intOf i).toNat)
    case atStart => exact ⟨0, by omega, rfl, by simpa [u64s] using hrow, hb1, HZ1⟩
    case round =>
      obtain ⟨j, hj, rfl, hr, hb, hz⟩ := hrel
      clear hrow hb1 HZ1
      have HR := hid hr
      clear hr
      by_cases hlt : j < n
      · have hll : (L.lanesL wd n xs).length = n := L.lanesL_length _ _ _
        have HTK : Hid ((L.lanesL wd n xs).take (j + 1) = (L.lanesL wd n xs).take j ++ [L.laneOf wd xs j]) := by
          refine hid ?_
          rw [List.take_succ_eq_append_getElem (by omega)]
          congr 1
          simp [L.lanesL]
        have HLT : Hid ((u64s ((L.lanesL wd n xs).take j)).length = j) := by refine hid ?_; simp [u64s]; omega
        have HY := hid (L.laneOf_lt wd xs j)
        go_wp2
        have hsplit : List.replicate (n - j) (Value.int .u64 0) = [Value.int .u64 ((L.laneOf wd xs j % 2 ^ 0 : Nat) : Int)] ++ List.replicate (n - j - 1) (Value.int .u64 0) := by
          obtain ⟨k, hk⟩ : ∃ k, n - j = k + 1 := ⟨n - j - 1, by omega⟩
          rw [hk, List.replicate_succ, Nat.pow_zero, Nat.mod_one]; rfl
        rw [hsplit, ← List.append_assoc] at HR
        clear hsplit
        generalize hAj : u64s ((L.lanesL wd n xs).take j) = Aj at *
        have HAJ := hid hAj
        clear hAj hll
        go_loopw [10] (fun i wv => ∃ t : Nat, t ≤ wd ∧ i = .int .i64 t ∧ Row wv w.heap.size 68 (Aj ++ [.int .u64 ((L.laneOf wd xs j % 2 ^ t : Nat) : Int)] ++ List.replicate (n - j - 1) (.int .u64 0)) ∧ Below w.heap.size w wv ∧ Hid (wv.heap.size = w.heap.size + 1)) (fun i _ => wd - (intOf i).toNat)
        case atStart => exact ⟨0, by omega, rfl, HR.out, hb, hz⟩
        case round =>
          obtain ⟨t, ht, rfl, hr, hb', hz'⟩ := hrel
          clear hb hz HR
          have HR := hid hr
          clear hr
          by_cases htw : t < wd
          · obtain ⟨p, hp⟩ : ∃ p, 64 / wd = p := ⟨_, rfl⟩
            have hpp := L.per_pos (w := wd) (by omega) hwd
            rw [hp] at hpp
            obtain ⟨d, hd⟩ : ∃ d, j / p = d := ⟨_, rfl⟩
            obtain ⟨s, hs⟩ : ∃ s, j % p * wd + t = s := ⟨_, rfl⟩
            have hs64 : s < 64 := by
              have h1 : (j % p + 1) * wd ≤ p * wd := Nat.mul_le_mul_right wd (Nat.mod_lt _ hpp)
              have h2 : p * wd ≤ 64 := by rw [← hp]; exact L.per_mul wd
              rw [Nat.add_mul, Nat.one_mul] at h1
              omega
            obtain ⟨c, hc⟩ : ∃ c, 64 * (j / p) + j % p * wd + t = c := ⟨_, rfl⟩
            have hdj : d ≤ j := by rw [← hd]; exact Nat.div_le_self _ _
            have hcd : c = 64 * d + s := by rw [← hc, hd, ← hs]; omega
            have HBO := hid (lane_bit (by omega) hwd xs j t p d s c hp hd hs htw hs64 hcd)
            have hcle : c ≤ 64 * 65536 + 64 := by omega
            have HC := hid hc; have HP := hid hp
            have hcell : wr.cell? ⟨w.heap.size, j, none⟩ = some (.int .u64 ((L.laneOf wd xs j % 2 ^ t : Nat) : Int)) := by
              rw [HR.out.cell]; exact get_mid _ _ _ _ HLT.out.symm
            have hfr := HR.out.frozen j
            have hy64 : L.laneOf wd xs j % 2 ^ t < 18446744073709551616 := by
              have h1 := pow_le_64 hwd
              have h2 := HY.out
              have h3 := Nat.mod_le (L.laneOf wd xs j) (2 ^ t)
              omega
            have HOR := hid (or_u64_bit (L.laneOf wd xs j % 2 ^ t) t hy64 (by omega))
            have HMB := hid (or_mod_bit (L.laneOf wd xs j) t)
            have HMN := hid (L.mod_succ_bit (L.laneOf wd xs j) t)
            clear hc hp hd hs hpp hcd
            generalize L.laneOf wd xs j = y at *
            cases htb : y.testBit t
            · have HB2 : Hid (bitOf xs c = false) := by refine hid ?_; rw [HBO.out, htb]
              have HN2 : Hid (y % 2 ^ (t + 1) = y % 2 ^ t) := by refine hid ?_; rw [HMN.out, htb]; rfl
              clear htb
              generalize hq : y % 2 ^ t = q at *
              have HQ := hid hq
              clear hq
              go_wp2_with (first
                | (go_at_call 129; refine (laneBit_any j t wd p c _ (by omega) hwd htw (by omega) HP.out HC.out).mono ?_; rintro e w2 ⟨rfl, nd, rfl⟩)
                | (go_at_call 27; refine (bitAt_any _ xs c _ (HX.out.mono (Go.below_drewN hb' nd)) hv HLM.out (by omega)).mono ?_; rintro e w2 ⟨rfl, rfl⟩; rw [HB2.out]))
              go_roundw
              case rel => exact ⟨t + 1, by omega, by go_num, by rw [HN2.out]; exact HR.out, Go.below_drewN hb' _, hz'⟩
              case measure => simp [intOf]; omega
            · have HB2 : Hid (bitOf xs c = true) := by refine hid ?_; rw [HBO.out, htb]
              have HN2 := hid (HMB.out htb)
              clear htb
              generalize hq : y % 2 ^ t = q at *
              have HQ := hid hq
              clear hq
              go_wp2_with (first
                | (go_at_call 129; refine (laneBit_any j t wd p c _ (by omega) hwd htw (by omega) HP.out HC.out).mono ?_; rintro e w2 ⟨rfl, nd, rfl⟩)
                | (go_at_call 27; refine (bitAt_any _ xs c _ (HX.out.mono (Go.below_drewN hb' nd)) hv HLM.out (by omega)).mono ?_; rintro e w2 ⟨rfl, rfl⟩; rw [HB2.out]))
              go_roundw
              case rel =>
                refine ⟨t + 1, by omega, by go_num, ?_, below_set (Go.below_drewN hb' nd) _ _ _ (Nat.le_refl _), ?_⟩
                · rw [HOR.out, HN2.out]
                  have hs2 := (HR.out.mono (Go.below_drewN (Below.refl _ wr) nd)).set j (.int .u64 ((y % 2 ^ (t + 1) : Nat) : Int))
                  rw [set_mid _ _ _ _ _ HLT.out.symm] at hs2
                  exact hs2
                · show _ = _; rw [← hz'.out]; simp [World.setCell]
              case measure => simp [intOf]; omega
          · obtain rfl : t = wd := by omega
            go_wp2
            go_roundw
            case rel =>
              refine ⟨j + 1, by omega, by go_num, ?_, hb', hz'⟩
              have hr := HR.out
              rw [Nat.mod_eq_of_lt HY.out] at hr
              rw [HTK.out, u64s_append, HAJ.out, ← Nat.sub_sub n j 1]
              exact hr
            case measure => simp [intOf]; omega
      · have hjn : j = n := by omega
        have hr := HR.out
        rw [hjn, List.take_of_length_le (by rw [L.lanesL_length]; omega), Nat.sub_self, List.replicate_zero, List.append_nil] at hr
        have HR := hid hr
        clear hr
        have hll : (L.lanesL wd n xs).length = n := L.lanesL_length _ _ _
        have hlv : ∀ x ∈ L.lanesL wd n xs, x < 18446744073709551616 := fun x hx => Nat.lt_of_lt_of_le (L.lanesL_lt wd n xs x hx) (pow_le_64 hwd)
        have hokv := okVals_lanes wd n hwd hn xs
        have hpr : packR (wd : Int) (L.lanesL wd n xs) = L.packL wd (L.lanesL wd n xs) := by rw [packR, if_pos hokv, Int.toNat_natCast]
        have hokp : okPack (wd : Int) (n : Int) xs = decide (L.packL wd (L.lanesL wd n xs) = xs) := by simp [okPack, okLim]; omega
        have HUN : Hid (L.packL wd (L.lanesL wd n xs) = xs → unpackR (wd : Int) (n : Int) xs = L.lanesL wd n xs) := by
          intro h; rw [unpackR, hokp, h]; simp
        have HUN2 : Hid (¬ L.packL wd (L.lanesL wd n xs) = xs → unpackR (wd : Int) (n : Int) xs = []) := by
          intro h; rw [unpackR, hokp]; simp [h]
        have hpl : (L.packL wd (L.lanesL wd n xs)).length ≤ 65536 := by
          rw [L.packL_length, hll]; exact Nat.le_trans (L.nWords_le hwd) hn
        have HOKP := hid hokp; have HPR := hid hpr; have HOKV := hid hokv; have HLV := hid hlv; have HLL := hid hll
        clear hokp hpr hokv hlv hll
        obtain rfl : j = n := hjn
        generalize L.lanesL wd j xs = ls at *
        by_cases hne : (L.packL wd ls).length = xs.length
        · have e1 : (((L.packL wd ls).length : Int) != (xs.length : Int)) = false := by rw [hne]; simp
          have HNE := hid hne
          clear hne
          go_wp2_with (go_at_call 89; refine (refPack_any _ ls wd _ (by rw [HLL.out]; exact Row.rd' HR.out (by simp [u64s]; exact HLL.out) (by unfold maxLen; omega)) HLV.out (by rw [HLL.out]; unfold maxLen; omega)).mono ?_; rintro e w2 ⟨r2, rfl, ho2, hb2⟩; rw [HOKV.out]; rw [HPR.out] at ho2; obtain ⟨A2, cap2, rfl, hnc2, hcm2, hlen2, hform2⟩ := owns_form ho2; have HFO2 := hid hform2; clear hform2 hlen2 ho2 hcm2 hnc2)
          have hb3 := Below.then' hb hb2 hb.size
          have HB3 := hid hb3
          have hr2 := HR.out.mono hb2
          have HOWN : Hid (w2.ownsRow w.heap.size 68 1 (.slice (some ⟨w.heap.size, 0, none⟩) j j) ls.length (u64s ls)) := by
            refine hid ?_
            have := hr2.owns (B := w.heap.size) (Nat.le_refl _) (n := j) (by simp [u64s]; exact HLL.out) (by unfold maxLen; omega)
            rw [HLL.out]; exact this
          clear hb2 hb hr2
          go_loop [70] (fun i => ∃ k : Nat, k ≤ (L.packL wd ls).length ∧ i = .int .i64 k ∧ (L.packL wd ls).take k = xs.take k) (fun i => (L.packL wd ls).length - (intOf i).toNat)
          case atStart => exact ⟨0, by omega, rfl, rfl⟩
          case round =>
            obtain ⟨k, hk, rfl, hp⟩ := hrel
            have HP := hid hp
            clear hp
            generalize hpk : L.packL wd ls = pk at *
            have HPK := hid hpk
            clear hpk
            by_cases hlt' : k < pk.length
            · have hkx : k < xs.length := by have := HNE.out; omega
              obtain ⟨b, o, rfl, hs⟩ := hA (by omega)
              obtain ⟨g2, rfl, _, _, hc2, _⟩ := HFO2.out (by omega)
              have c1 := (hs.mono HB3.out).word k hkx
              have c2 : w2.cell? ⟨g2, k, none⟩ = some (.int .u64 ((pk.getD k 0 : Nat) : Int)) := by rw [hc2 k hlt']; exact u64s_get pk k hlt'
              have HE : Hid (pk.getD k 0 = xs.getD k 0 → pk.take (k + 1) = xs.take (k + 1)) := eq_step pk xs k HNE.out HP.out hlt'
              have HF : Hid (pk.getD k 0 ≠ xs.getD k 0 → pk ≠ xs) := fun h e => h (by rw [e])
              generalize pk.getD k 0 = f1 at *
              generalize xs.getD k 0 = f2 at *
              clear hA hs hc2
              go_wp2
              · have h : ((f1 : Int) != (f2 : Int)) = true := by assumption
                go_ret2
                have hne : ¬ pk = xs := HF.out (by rw [bne_iff_ne] at h; omega)
                refine ⟨.slice none 0 0, ?_, by rw [HUN2.out hne]; exact World.ownsRow_nil _ _ _ _, HB3.out⟩
                rw [HOKP.out, decide_eq_false hne]; rfl
              · have h : ((f1 : Int) != (f2 : Int)) = false := by assumption
                go_round
                case rel => exact ⟨k + 1, by omega, by go_num, HE.out (by rw [bne_eq_false_iff_eq] at h; omega)⟩
                case measure => simp [intOf]; omega
            · go_wp2
              go_ret2
              have heq : pk = xs := by
                have h1 := HP.out
                rw [show k = pk.length from by omega, List.take_length, HNE.out, List.take_length] at h1
                exact h1
              refine ⟨.slice (some ⟨w.heap.size, 0, none⟩) j j, ?_, by rw [HUN.out heq]; exact HOWN.out, HB3.out⟩
              rw [HOKP.out, decide_eq_true heq]; rfl
        · have e1 : (((L.packL wd ls).length : Int) != (xs.length : Int)) = true := by rw [bne_iff_ne]; omega
          have hne2 : ¬ L.packL wd ls = xs := fun h => hne (by rw [h])
          have HNE := hid hne2
          clear hne hne2
          go_wp2_with (go_at_call 89; refine (refPack_any _ ls wd _ (by rw [HLL.out]; exact Row.rd' HR.out (by simp [u64s]; exact HLL.out) (by unfold maxLen; omega)) HLV.out (by rw [HLL.out]; unfold maxLen; omega)).mono ?_; rintro e w2 ⟨r2, rfl, ho2, hb2⟩; rw [HOKV.out]; rw [HPR.out] at ho2; obtain ⟨A2, cap2, rfl, hnc2, hcm2, hlen2, hform2⟩ := owns_form ho2; have HFO2 := hid hform2; clear hform2 hlen2 ho2 hcm2 hnc2)
          have hb3 := Below.then' hb hb2 hb.size
          have HB3 := hid hb3
          have hr2 := HR.out.mono hb2
          have HOWN : Hid (w2.ownsRow w.heap.size 68 1 (.slice (some ⟨w.heap.size, 0, none⟩) j j) ls.length (u64s ls)) := by
            refine hid ?_
            have := hr2.owns (B := w.heap.size) (Nat.le_refl _) (n := j) (by simp [u64s]; exact HLL.out) (by unfold maxLen; omega)
            rw [HLL.out]; exact this
          clear hb2 hb hr2
          go_ret2
          refine ⟨.slice none 0 0, ?_, by rw [HUN2.out HNE.out]; exact World.ownsRow_nil _ _ _ _, HB3.out⟩
          rw [HOKP.out, decide_eq_false HNE.out]; rfl
  · have hno : okPack wd n xs = false := okPack_not xs hin
    have hf : unpackR wd n xs = [] := by rw [unpackR, hno]; rfl
    have HO := hid hno
    have HF := hid hf
    clear hno hf
    go_enter Tryz.func110, Tryz.ntmps110
    go_wp2
    all_goals go_ret2
    all_goals exact ⟨.slice none 0 0, by rw [HO.out]; rfl, by rw [HF.out]; exact World.ownsRow_nil _ _ _ _, Below.refl _ _⟩
end Go.Proofs.YtdlkdiaobbakiaaGreatDoor
