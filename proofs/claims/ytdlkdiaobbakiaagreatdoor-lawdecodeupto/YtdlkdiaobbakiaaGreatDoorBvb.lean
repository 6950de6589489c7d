/- Package bitvec's Pack and Unpack. -/
import Derived.Test.YtdlkdiaobbakiaaGreatDoorBva
import Derived.Test.YtdlkdiaobbakiaaGreatDoorLay
import Derived.Deep.RegionWith
set_option linter.unusedVariables false
set_option linter.unusedSimpArgs false
set_option linter.unnecessarySimpa false
set_option maxRecDepth 20000
namespace Go.Proofs.YtdlkdiaobbakiaaGreatDoor
open Go.RowKit

theorem and_lane (x q wd : Nat) (hx : x < 18446744073709551616) (hw : wd ≤ 64) :
    bits BinOp.and IntKind.u64 ((x : Int) / 2 ^ q) ((2 ^ wd - 1 : Nat) : Int) = ((x / 2 ^ q % 2 ^ wd : Nat) : Int) := by
  have e : ((x : Int) / 2 ^ q) = ((x / 2 ^ q : Nat) : Int) := by simp
  have h := pow_le_64 hw
  have h0 : 0 < 2 ^ wd := Nat.pow_pos (by omega)
  have h1 : x / 2 ^ q ≤ x := Nat.div_le_self _ _
  rw [e, u64_and_nat _ _ (by omega) (by omega), Nat.and_two_pow_sub_one_eq_mod]



/-- the row with the places from o on laid with vs -/
def lay (cs : List Value) (o : Nat) (vs : List Value) : List Value := cs.take o ++ vs ++ cs.drop (o + vs.length)
theorem lay_nil (cs : List Value) (o : Nat) : lay cs o [] = cs := by simp [lay]
theorem lay_length (cs : List Value) (o : Nat) (vs : List Value) (h : o + vs.length ≤ cs.length) : (lay cs o vs).length = cs.length := by
  simp [lay]; omega
theorem lay_snoc (cs : List Value) (o : Nat) (vs : List Value) (v : Value) (h : o + vs.length < cs.length) : (lay cs o vs).set (o + vs.length) v = lay cs o (vs ++ [v]) := by
  unfold lay
  have h1 : (cs.take o ++ vs).length = o + vs.length := by simp; omega
  rw [List.set_append_right _ _ (by omega), h1, Nat.sub_self, List.drop_eq_getElem_cons h, List.set_cons_zero]
  simp [Nat.add_assoc]

def okVals (wd : Int) (xs : List Nat) : Bool := okLim wd xs.length && xs.all fun x => decide (x < 2 ^ wd.toNat)

/-- what Pack answers -/
def packR (wd : Int) (xs : List Nat) : List Nat := if okVals wd xs = true then L.packL wd.toNat xs else []

set_option maxHeartbeats 2000000 in
theorem Pack_any (v : Value) (xs : List Nat) (wd : Int) (w : World) (hx : Rd w v xs.length 1 (u64s xs)) (hv : ∀ x ∈ xs, x < 18446744073709551616) (hl : xs.length ≤ maxLen) :
    Calls Tryz.prog 118 #[v, .int .i64 wd] w fun e w' => ∃ r, e = .returned (.tuple #[r, .bool (okVals wd xs)]) ∧
      w'.ownsRow w.heap.size 68 1 r (packR wd xs).length (u64s (packR wd xs)) ∧ Below w.heap.size w w' := by
  unfold maxLen at hl
  obtain ⟨A, ca, rfl, hlc, hcm, hA⟩ := hx.form
  have HCM := hid hcm
  unfold maxLen at hcm
  by_cases hin : 0 ≤ wd ∧ wd ≤ 64 ∧ 0 ≤ (xs.length : Int) ∧ (xs.length : Int) ≤ 65536
  · obtain ⟨wd, rfl⟩ := Int.eq_ofNat_of_zero_le hin.1
    have hwd : wd ≤ 64 := by omega
    have hn : xs.length ≤ 65536 := by omega
    have HI := hid hin
    have HX := hid hx
    clear hin hx
    obtain ⟨z, hz⟩ : ∃ z, 2 ^ wd - 1 = z := ⟨_, rfl⟩
    have HZ := hid hz
    clear hz
    have hnwle := L.nWords_le (n := xs.length) hwd
    obtain ⟨m, hm⟩ : ∃ m, L.nWords wd xs.length = m := ⟨_, rfl⟩
    rw [hm] at hnwle
    have HM := hid hm
    clear hm
    go_enter Tryz.func118, Tryz.ntmps118
    go_wp2_with (first
        | (go_at_call 148; refine (inLimits_any _ _ _).mono ?_; rintro e w' ⟨rfl, rfl⟩; rw [decide_eq_true HI.out])
        | (go_at_call 95; refine (lowBits_any wd _ (by omega)).mono ?_; rintro e w' ⟨rfl, rfl⟩; rw [HZ.out]))
    go_loop [21] (fun i => ∃ k : Nat, k ≤ xs.length ∧ i = .int .i64 k ∧ ∀ t, t < k → xs.getD t 0 < 2 ^ wd) (fun i => xs.length - (intOf i).toNat)
    case atStart => exact ⟨0, by omega, rfl, fun t h => absurd h (Nat.not_lt_zero t)⟩
    case round =>
      obtain ⟨k, hk, rfl, hall⟩ := hrel
      have HA := hid hall
      clear hall
      by_cases hlt : k < xs.length
      · obtain ⟨b, o, rfl, hs⟩ := hA (by omega)
        have c1 := hs.word k hlt
        have h2 : 0 < 2 ^ wd := Nat.pow_pos (by omega)
        have HG : Hid (xs.getD k 0 ≤ z → ∀ t, t < k + 1 → xs.getD t 0 < 2 ^ wd) := by
          intro h t ht
          by_cases htk : t = k
          · subst htk; have := HZ.out; omega
          · exact HA.out t (by omega)
        have HB : Hid (¬ xs.getD k 0 ≤ z → okVals (wd : Int) xs = false) := by
          intro h
          rw [← Bool.not_eq_true]
          intro hp
          simp only [okVals, Bool.and_eq_true, List.all_eq_true, decide_eq_true_eq, Int.toNat_natCast] at hp
          have := hp.2 (xs.getD k 0) (by simp [List.getD, List.getElem?_eq_getElem hlt])
          have := HZ.out; omega
        clear hA hs h2
        generalize xs.getD k 0 = p at *
        go_wp2
        · rename_i h
          have hf := HB.out (by omega)
          go_ret2
          exact ⟨.slice none 0 0, by rw [hf]; rfl, by rw [packR, hf]; exact World.ownsRow_nil _ _ _ _, Below.refl _ _⟩
        · rename_i h
          go_round
          case rel => exact ⟨k + 1, by omega, by go_num, HG.out (by omega)⟩
          case measure => simp [intOf]; omega
      · have hok : okVals (wd : Int) xs = true := by
          simp only [okVals, okLim, Bool.and_eq_true, List.all_eq_true, decide_eq_true_eq, Int.toNat_natCast]
          refine ⟨HI.out, fun x hx => ?_⟩
          obtain ⟨t, ht, rfl⟩ := List.getElem_of_mem hx
          have := HA.out t (by omega)
          simpa [List.getD, List.getElem?_eq_getElem ht] using this
        have HOK := hid hok
        clear hok
        go_wp2_with (go_at_call 149; refine (laneWords_any _ _ m _ (by omega) (by omega) HM.out).mono ?_; rintro e w' ⟨rfl, rfl⟩)
        refine upon_make 68 (.int .u64 0) 8 Tryz.underlying47 Tryz.info45 rfl m (by omega) (by omega) (by omega) (by unfold maxLen; omega) ?_
        intro w1 hrow hb1 hsz1
        have HZ1 := hid hsz1
        clear hsz1
        go_wp2
        go_loopw [36] (fun i wr => ∃ j : Nat, j ≤ m ∧ i = .int .i64 j ∧ Row wr w'.heap.size 68 (u64s ((L.packL wd xs).take j) ++ List.replicate (m - j) (.int .u64 0)) ∧ Below w'.heap.size w' wr ∧ Hid (wr.heap.size = w'.heap.size + 1)) (fun i _ => m - (intOf i).toNat)
        case atStart => exact ⟨0, by omega, rfl, by simpa [u64s] using hrow, hb1, HZ1⟩
        case round =>
          obtain ⟨j, hj, rfl, hr, hb, hz⟩ := hrel
          clear hrow hb1 HZ1
          have hpl : (L.packL wd xs).length = m := by rw [L.packL_length]; exact HM.out
          by_cases hlt : j < m
          · have hcell : wr.cell? ⟨w'.heap.size, j, none⟩ = some (.int .u64 0) := by
              rw [hr.cell]; exact get_fill _ _ _ _ (by simp [u64s]; omega) (by omega)
            have hfr := hr.frozen j
            have HR := hid hr
            clear hr
            have hw0 : 0 < wd := by
              rcases Nat.eq_zero_or_pos wd with h | h
              · exfalso; subst h; have := HM.out; rw [L.nWords_zero] at this; omega
              · exact h
            have hjp : j * (64 / wd) < xs.length := (L.lt_nWords hw0 hwd).1 (by rw [HM.out]; exact hlt)
            obtain ⟨c, hc⟩ : ∃ c, L.inWord wd xs.length j = c := ⟨_, rfl⟩
            have hcw : c * wd ≤ 64 := by rw [← hc]; exact L.inWord_le wd _ j
            have hgetp := L.packL_get wd xs j (by rw [HM.out]; exact hlt)
            obtain ⟨p, hp⟩ : ∃ p, 64 / wd = p := ⟨_, rfl⟩
            obtain ⟨q, hq⟩ : ∃ q, j * p = q := ⟨_, rfl⟩
            have hq' : (j : Int) * (p : Int) = (q : Int) := by rw [← hq]; simp
            have hpp := L.per_pos hw0 hwd
            have hJP := hid hjp
            rw [hp] at hjp hgetp hpp
            rw [hq] at hjp hgetp
            have hcc : c = min p (xs.length - q) := by rw [← hc, L.inWord, hp, hq]
            have hc1 : q + c ≤ xs.length := by omega
            have HC := hid hc; have HP := hid hp; have HGP := hid hgetp; have HCC := hid hcc
            obtain ⟨b, o, rfl, hs⟩ := hA (by omega)
            have hseg := hs.mono (hb.mono (Nat.le_refl _))
            have HPT : Hid (Rd wr (.slice (some ⟨b, o + q, none⟩) c (ca - q)) ((xs.drop q).take c).length 1 (u64s ((xs.drop q).take c))) := by
              have := Rd.part hseg q c (by simp [u64s]) hc1 (by omega) HCM.out
              have e : ((xs.drop q).take c).length = c := by rw [List.length_take, List.length_drop]; omega
              refine hid ?_
              rw [e]
              simpa [u64s, List.map_take, List.map_drop] using this
            have htk : (xs.drop q).take p = (xs.drop q).take c := by
              rw [HCC.out]
              by_cases h : p ≤ xs.length - q
              · rw [Nat.min_eq_left h]
              · rw [Nat.min_eq_right (by omega), List.take_of_length_le (by rw [List.length_drop]; omega), List.take_of_length_le (by rw [List.length_drop]; omega)]
            rw [htk] at HGP
            have hcl : ((xs.drop q).take c).length = c := by rw [List.length_take, List.length_drop]; omega
            have HCL := hid hcl
            have HXV : Hid (∀ x ∈ (xs.drop q).take c, x < 2 ^ wd) := by
              intro x hx
              obtain ⟨t, ht, rfl⟩ := List.getElem_of_mem (List.mem_of_mem_drop (List.mem_of_mem_take hx))
              have := HA.out t (by omega)
              simpa [List.getD, List.getElem?_eq_getElem ht] using this
            obtain ⟨y, hy⟩ : ∃ y, (L.packL wd xs).getD j 0 = y := ⟨_, rfl⟩
            have HY := hid hy
            rw [hy] at HGP
            clear hc hp hq hgetp hcc hA hseg hs htk hcl hy
            go_wp2_with (first
              | (go_at_call 150; refine (lanesPerWord_any _ p _ (by omega) (by omega) HP.out).mono ?_; rintro e w'' ⟨rfl, rfl⟩)
              | (go_at_call 152; refine (lanesInWord_any _ _ _ c _ (by omega) (by omega) (by omega) (Nat.le_of_lt hJP.out) HC.out).mono ?_; rintro e w'' ⟨rfl, rfl⟩)
              | (go_at_call 151; refine (packWord_any _ ((xs.drop q).take c) wd _ HPT.out (by omega) (by omega) (by rw [HCL.out]; omega) HXV.out).mono ?_; rintro e w'' ⟨rfl, rfl⟩; rw [← HGP.out]))
            go_roundw
            case rel =>
              refine ⟨j + 1, by omega, by go_num, ?_, below_set hb _ _ _ (Nat.le_refl _), ?_⟩
              · have hs := HR.out.set j (.int .u64 (y : Int))
                rw [set_fill _ _ _ _ _ (by simp [u64s]; omega) (by omega)] at hs
                rw [List.take_succ_eq_append_getElem (by omega), u64s_append, ← Nat.sub_sub m j 1]
                have e : (L.packL wd xs)[j]'(by omega) = y := by
                  have := HY.out
                  simpa [List.getD, List.getElem?_eq_getElem (show j < (L.packL wd xs).length by omega)] using this
                rw [e]
                exact hs
              · show _ = _; rw [← hz.out]; simp [World.setCell]
            case measure => simp [intOf]; omega
          · go_wp2
            go_ret2
            obtain rfl : j = m := by omega
            have hpk : packR (wd : Int) xs = L.packL wd xs := by rw [packR, if_pos HOK.out, Int.toNat_natCast]
            refine ⟨.slice (some ⟨w'.heap.size, 0, none⟩) j j, by rw [HOK.out]; rfl, ?_, hb⟩
            rw [hpk, hpl]
            refine Row.owns ?_ (Nat.le_refl _) (by simp [u64s, hpl]) (by unfold maxLen; omega)
            rw [show List.take j (L.packL wd xs) = L.packL wd xs from by rw [← hpl, List.take_length], Nat.sub_self] at hr
            simpa using hr
  · have hno : okVals wd xs = false := by simp [okVals, okLim]; intro a b c; omega
    go_enter Tryz.func118, Tryz.ntmps118
    go_wp2_with (go_at_call 148; refine (inLimits_any _ _ _).mono ?_; rintro e w' ⟨rfl, rfl⟩; rw [decide_eq_false hin])
    go_ret2
    exact ⟨.slice none 0 0, by rw [hno]; rfl, by rw [packR, hno]; exact World.ownsRow_nil _ _ _ _, Below.refl _ _⟩

/-- what Unpack answers -/
def unpackR (wd n : Int) (xs : List Nat) : List Nat := if okPack wd n xs = true then L.lanesL wd.toNat n.toNat xs else []

theorem lay_fill (A vs : List Value) (n : Nat) (z : Value) (q : Nat) (hq : q = A.length) (h : vs.length ≤ n) : lay (A ++ List.replicate n z) q vs = A ++ vs ++ List.replicate (n - vs.length) z := by
  subst hq
  unfold lay
  rw [List.take_left, List.drop_append, List.drop_eq_nil_of_le (by omega)]
  simp
theorem lanes_chunk (wd n p k c : Nat) (xs : List Nat) (h0 : 0 < wd) (h : wd ≤ 64) (hp : 64 / wd = p) (hc : c = min p (n - k * p)) :
    ((L.lanesL wd n xs).drop (k * p)).take p = (List.range c).map fun j => xs.getD k 0 / 2 ^ (j * wd) % 2 ^ wd := by
  have hpp := L.per_pos h0 h
  rw [hp] at hpp
  apply List.ext_getElem?
  intro j
  rw [List.getElem?_take]
  by_cases hj : j < c
  · rw [if_pos (by omega), List.getElem?_drop, L.lanesL, List.getElem?_map, List.getElem?_range (by omega), List.getElem?_map, List.getElem?_range hj]
    have hjp : j < p := by omega
    have e1 : (k * p + j) / p = k := by rw [Nat.mul_comm k p, Nat.mul_add_div hpp, Nat.div_eq_of_lt hjp, Nat.add_zero]
    have e2 : (k * p + j) % p = j := by rw [Nat.mul_comm k p, Nat.mul_add_mod, Nat.mod_eq_of_lt hjp]
    simp only [Option.map_some, L.laneOf, hp, show wd ≠ 0 from by omega, if_false, e1, e2]
  · rw [List.getElem?_eq_none (l := List.map _ _) (by simp; omega)]
    split
    · rw [List.getElem?_drop, List.getElem?_eq_none]; simp [L.lanesL]; omega
    · rfl

end Go.Proofs.YtdlkdiaobbakiaaGreatDoor
