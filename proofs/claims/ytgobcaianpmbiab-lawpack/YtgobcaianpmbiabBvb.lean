/- Package bitvec's Pack and Unpack. -/
import Derived.Test.YtgobcaianpmbiabBva
import Derived.Test.YtgobcaianpmbiabLay
import Derived.Deep.RegionWith
set_option linter.unusedVariables false
set_option linter.unusedSimpArgs false
set_option linter.unnecessarySimpa false
namespace Go.Proofs.Ytgobcaianpmbiab
open Go.RowKit

theorem and_lane (x q wd : Nat) (hx : x < 18446744073709551616) (hw : wd ≤ 64) :
    bits BinOp.and IntKind.u64 ((x : Int) / 2 ^ q) ((2 ^ wd - 1 : Nat) : Int) = ((x / 2 ^ q % 2 ^ wd : Nat) : Int) := by
  have e : ((x : Int) / 2 ^ q) = ((x / 2 ^ q : Nat) : Int) := by simp
  have h := pow_le_64 hw
  have h0 : 0 < 2 ^ wd := Nat.pow_pos (by omega)
  have h1 : x / 2 ^ q ≤ x := Nat.div_le_self _ _
  rw [e, u64_and_nat _ _ (by omega) (by omega), Nat.and_two_pow_sub_one_eq_mod]



/-- the row with the places from o on laid with vs -/
def lay (cs : List Value) (o : Nat) (vs : List Value) : List Value := cs.take o ++ vs ++ cs.drop (o + vs.length)
theorem lay_nil (cs : List Value) (o : Nat) : lay cs o [] = cs := by simp [lay]
theorem lay_length (cs : List Value) (o : Nat) (vs : List Value) (h : o + vs.length ≤ cs.length) : (lay cs o vs).length = cs.length := by
  simp [lay]; omega
theorem lay_snoc (cs : List Value) (o : Nat) (vs : List Value) (v : Value) (h : o + vs.length < cs.length) : (lay cs o vs).set (o + vs.length) v = lay cs o (vs ++ [v]) := by
  unfold lay
  have h1 : (cs.take o ++ vs).length = o + vs.length := by simp; omega
  rw [List.set_append_right _ _ (by omega), h1, Nat.sub_self, List.drop_eq_getElem_cons h, List.set_cons_zero]
  simp [Nat.add_assoc]

set_option maxHeartbeats 1000000 in
/-- the lanes of a word into a part of a row -/
theorem unpackWord_any (g o m cap wd x : Nat) (cs : List Value) (w : World) (hr : Row w g 22 cs) (hm : o + m ≤ cs.length) (hcap : m ≤ cap) (h0 : 0 < wd) (hw : wd ≤ 64) (hx : x < 18446744073709551616) (hmw : m * wd ≤ 64) :
    Calls Try.prog 29 #[.slice (some ⟨g, o, none⟩) m cap, .int .i64 wd, .int .u64 x] w fun e w' => e = .returned (.tuple #[]) ∧
      Row w' g 22 (lay cs o (u64s ((List.range m).map fun j => x / 2 ^ (j * wd) % 2 ^ wd))) ∧ Below g w w' ∧ w'.heap.size = w.heap.size := by
  have hm64 : m ≤ 64 := Nat.le_trans (Nat.le_mul_of_pos_right _ h0) hmw
  go_enter Try.func29, Try.ntmps29
  go_wp2
  go_loopw [9] (fun i wr => ∃ j : Nat, j ≤ m ∧ i = .int .i64 j ∧ Row wr g 22 (lay cs o (u64s ((List.range j).map fun j => x / 2 ^ (j * wd) % 2 ^ wd))) ∧ Below g w wr ∧ Hid (wr.heap.size = w.heap.size)) (fun i _ => m - (intOf i).toNat)
  case atStart => exact ⟨0, by omega, rfl, by simpa [u64s, lay_nil] using hr, Below.refl _ _, rfl⟩
  case round =>
    obtain ⟨j, hj, rfl, hrj, hb, hz⟩ := hrel
    have HR := hid hrj
    by_cases hlt : j < m
    · obtain ⟨c, hc⟩ : ∃ c, (lay cs o (u64s ((List.range j).map fun j => x / 2 ^ (j * wd) % 2 ^ wd)))[o + j]? = some c := by
        refine ⟨_, List.getElem?_eq_getElem ?_⟩
        rw [lay_length _ _ _ (by simp [u64s]; omega)]; omega
      have hcell : wr.cell? ⟨g, o + j, none⟩ = some c := by rw [hrj.cell, hc]
      have hfr := hrj.frozen (o + j)
      obtain ⟨q, hq⟩ : ∃ q, j * wd = q := ⟨_, rfl⟩
      have hq' : (j : Int) * (wd : Int) = (q : Int) := by rw [← hq]; simp
      have hqle : q ≤ 64 := by rw [← hq]; exact Nat.le_trans (Nat.mul_le_mul_right wd (by omega)) hmw
      have HQ := hid hq
      have HL := hid (and_lane x q wd hx hw)
      generalize hzz : 2 ^ wd - 1 = z at *
      have HZ := hid hzz
      clear hrj hc hzz hq
      go_wp2_with (go_at_call 21; refine (lowBits_any wd _ (by omega)).mono ?_; rintro e w' ⟨rfl, rfl⟩; rw [HZ.out])
      go_roundw
      case rel =>
        refine ⟨j + 1, by omega, by go_num, ?_, below_set hb _ _ _ (Nat.le_refl _), ?_⟩
        · rw [HL.out]
          have hs := HR.out.set (o + j) (.int .u64 ((x / 2 ^ q % 2 ^ wd : Nat) : Int))
          have e : (u64s ((List.range j).map fun j => x / 2 ^ (j * wd) % 2 ^ wd)).length = j := by simp [u64s]
          have hs2 := lay_snoc cs o (u64s ((List.range j).map fun j => x / 2 ^ (j * wd) % 2 ^ wd)) (.int .u64 ((x / 2 ^ q % 2 ^ wd : Nat) : Int)) (by rw [e]; omega)
          rw [e] at hs2
          rw [hs2] at hs
          rw [List.range_succ, List.map_append, u64s_append, List.map_singleton, HQ.out]
          exact hs
        · show _ = _; rw [← hz.out]; simp [World.setCell]
      case measure => simp [intOf]; omega
    · go_wp2
      obtain rfl : j = m := by omega
      go_end0
      exact ⟨rfl, HR.out, hb, hz.out⟩

def okVals (wd : Int) (xs : List Nat) : Bool := okLim wd xs.length && xs.all fun x => decide (x < 2 ^ wd.toNat)

/-- what Pack answers -/
def packR (wd : Int) (xs : List Nat) : List Nat := if okVals wd xs = true then L.packL wd.toNat xs else []

set_option maxHeartbeats 2000000 in
theorem Pack_any (v : Value) (xs : List Nat) (wd : Int) (w : World) (hx : Rd w v xs.length 1 (u64s xs)) (hv : ∀ x ∈ xs, x < 18446744073709551616) (hl : xs.length ≤ maxLen) :
    Calls Try.prog 10 #[v, .int .i64 wd] w fun e w' => ∃ r, e = .returned (.tuple #[r, .bool (okVals wd xs)]) ∧
      w'.ownsRow w.heap.size 22 1 r (packR wd xs).length (u64s (packR wd xs)) ∧ Below w.heap.size w w' := by
  unfold maxLen at hl
  obtain ⟨A, ca, rfl, hlc, hcm, hA⟩ := hx.form
  have HCM := hid hcm
  unfold maxLen at hcm
  by_cases hin : 0 ≤ wd ∧ wd ≤ 64 ∧ 0 ≤ (xs.length : Int) ∧ (xs.length : Int) ≤ 65536
  · obtain ⟨wd, rfl⟩ := Int.eq_ofNat_of_zero_le hin.1
    have hwd : wd ≤ 64 := by omega
    have hn : xs.length ≤ 65536 := by omega
    have HI := hid hin
    have HX := hid hx
    clear hin hx
    obtain ⟨z, hz⟩ : ∃ z, 2 ^ wd - 1 = z := ⟨_, rfl⟩
    have HZ := hid hz
    clear hz
    have hnwle := L.nWords_le (n := xs.length) hwd
    obtain ⟨m, hm⟩ : ∃ m, L.nWords wd xs.length = m := ⟨_, rfl⟩
    rw [hm] at hnwle
    have HM := hid hm
    clear hm
    go_enter Try.func10, Try.ntmps10
    go_wp2_with (first
        | (go_at_call 20; refine (inLimits_any _ _ _).mono ?_; rintro e w' ⟨rfl, rfl⟩; rw [decide_eq_true HI.out])
        | (go_at_call 21; refine (lowBits_any wd _ (by omega)).mono ?_; rintro e w' ⟨rfl, rfl⟩; rw [HZ.out]))
    go_loop [21] (fun i => ∃ k : Nat, k ≤ xs.length ∧ i = .int .i64 k ∧ ∀ t, t < k → xs.getD t 0 < 2 ^ wd) (fun i => xs.length - (intOf i).toNat)
    case atStart => exact ⟨0, by omega, rfl, fun t h => absurd h (Nat.not_lt_zero t)⟩
    case round =>
      obtain ⟨k, hk, rfl, hall⟩ := hrel
      have HA := hid hall
      clear hall
      by_cases hlt : k < xs.length
      · obtain ⟨b, o, rfl, hs⟩ := hA (by omega)
        have c1 := hs.word k hlt
        have h2 : 0 < 2 ^ wd := Nat.pow_pos (by omega)
        have HG : Hid (xs.getD k 0 ≤ z → ∀ t, t < k + 1 → xs.getD t 0 < 2 ^ wd) := by
          intro h t ht
          by_cases htk : t = k
          · subst htk; have := HZ.out; omega
          · exact HA.out t (by omega)
        have HB : Hid (¬ xs.getD k 0 ≤ z → okVals (wd : Int) xs = false) := by
          intro h
          rw [← Bool.not_eq_true]
          intro hp
          simp only [okVals, Bool.and_eq_true, List.all_eq_true, decide_eq_true_eq, Int.toNat_natCast] at hp
          have := hp.2 (xs.getD k 0) (by simp [List.getD, List.getElem?_eq_getElem hlt])
          have := HZ.out; omega
        clear hA hs h2
        generalize xs.getD k 0 = p at *
        go_wp2
        · rename_i h
          have hf := HB.out (by omega)
          go_ret2
          exact ⟨.slice none 0 0, by rw [hf]; rfl, by rw [packR, hf]; exact World.ownsRow_nil _ _ _ _, Below.refl _ _⟩
        · rename_i h
          go_round
          case rel => exact ⟨k + 1, by omega, by go_num, HG.out (by omega)⟩
          case measure => simp [intOf]; omega
      · have hok : okVals (wd : Int) xs = true := by
          simp only [okVals, okLim, Bool.and_eq_true, List.all_eq_true, decide_eq_true_eq, Int.toNat_natCast]
          refine ⟨HI.out, fun x hx => ?_⟩
          obtain ⟨t, ht, rfl⟩ := List.getElem_of_mem hx
          have := HA.out t (by omega)
          simpa [List.getD, List.getElem?_eq_getElem ht] using this
        have HOK := hid hok
        clear hok
        go_wp2_with (go_at_call 22; refine (laneWords_any _ _ m _ (by omega) (by omega) HM.out).mono ?_; rintro e w' ⟨rfl, rfl⟩)
        refine upon_make 22 (.int .u64 0) 8 Try.underlying31 Try.info45 rfl m (by omega) (by omega) (by omega) (by unfold maxLen; omega) ?_
        intro w1 hrow hb1 hsz1
        have HZ1 := hid hsz1
        clear hsz1
        go_wp2
        go_loopw [36] (fun i wr => ∃ j : Nat, j ≤ m ∧ i = .int .i64 j ∧ Row wr w'.heap.size 22 (u64s ((L.packL wd xs).take j) ++ List.replicate (m - j) (.int .u64 0)) ∧ Below w'.heap.size w' wr ∧ Hid (wr.heap.size = w'.heap.size + 1)) (fun i _ => m - (intOf i).toNat)
        case atStart => exact ⟨0, by omega, rfl, by simpa [u64s] using hrow, hb1, HZ1⟩
        case round =>
          obtain ⟨j, hj, rfl, hr, hb, hz⟩ := hrel
          clear hrow hb1 HZ1
          have hpl : (L.packL wd xs).length = m := by rw [L.packL_length]; exact HM.out
          by_cases hlt : j < m
          · have hcell : wr.cell? ⟨w'.heap.size, j, none⟩ = some (.int .u64 0) := by
              rw [hr.cell]; exact get_fill _ _ _ _ (by simp [u64s]; omega) (by omega)
            have hfr := hr.frozen j
            have HR := hid hr
            clear hr
            have hw0 : 0 < wd := by
              rcases Nat.eq_zero_or_pos wd with h | h
              · exfalso; subst h; have := HM.out; rw [L.nWords_zero] at this; omega
              · exact h
            have hjp : j * (64 / wd) < xs.length := (L.lt_nWords hw0 hwd).1 (by rw [HM.out]; exact hlt)
            obtain ⟨c, hc⟩ : ∃ c, L.inWord wd xs.length j = c := ⟨_, rfl⟩
            have hcw : c * wd ≤ 64 := by rw [← hc]; exact L.inWord_le wd _ j
            have hgetp := L.packL_get wd xs j (by rw [HM.out]; exact hlt)
            obtain ⟨p, hp⟩ : ∃ p, 64 / wd = p := ⟨_, rfl⟩
            obtain ⟨q, hq⟩ : ∃ q, j * p = q := ⟨_, rfl⟩
            have hq' : (j : Int) * (p : Int) = (q : Int) := by rw [← hq]; simp
            have hpp := L.per_pos hw0 hwd
            have hJP := hid hjp
            rw [hp] at hjp hgetp hpp
            rw [hq] at hjp hgetp
            have hcc : c = min p (xs.length - q) := by rw [← hc, L.inWord, hp, hq]
            have hc1 : q + c ≤ xs.length := by omega
            have HC := hid hc; have HP := hid hp; have HGP := hid hgetp; have HCC := hid hcc
            obtain ⟨b, o, rfl, hs⟩ := hA (by omega)
            have hseg := hs.mono (hb.mono (Nat.le_refl _))
            have HPT : Hid (Rd wr (.slice (some ⟨b, o + q, none⟩) c (ca - q)) ((xs.drop q).take c).length 1 (u64s ((xs.drop q).take c))) := by
              have := Rd.part hseg q c (by simp [u64s]) hc1 (by omega) HCM.out
              have e : ((xs.drop q).take c).length = c := by rw [List.length_take, List.length_drop]; omega
              refine hid ?_
              rw [e]
              simpa [u64s, List.map_take, List.map_drop] using this
            have htk : (xs.drop q).take p = (xs.drop q).take c := by
              rw [HCC.out]
              by_cases h : p ≤ xs.length - q
              · rw [Nat.min_eq_left h]
              · rw [Nat.min_eq_right (by omega), List.take_of_length_le (by rw [List.length_drop]; omega), List.take_of_length_le (by rw [List.length_drop]; omega)]
            rw [htk] at HGP
            have hcl : ((xs.drop q).take c).length = c := by rw [List.length_take, List.length_drop]; omega
            have HCL := hid hcl
            have HXV : Hid (∀ x ∈ (xs.drop q).take c, x < 2 ^ wd) := by
              intro x hx
              obtain ⟨t, ht, rfl⟩ := List.getElem_of_mem (List.mem_of_mem_drop (List.mem_of_mem_take hx))
              have := HA.out t (by omega)
              simpa [List.getD, List.getElem?_eq_getElem ht] using this
            obtain ⟨y, hy⟩ : ∃ y, (L.packL wd xs).getD j 0 = y := ⟨_, rfl⟩
            have HY := hid hy
            rw [hy] at HGP
            clear hc hp hq hgetp hcc hA hseg hs htk hcl hy
            go_wp2_with (first
              | (go_at_call 23; refine (lanesPerWord_any _ p _ (by omega) (by omega) HP.out).mono ?_; rintro e w'' ⟨rfl, rfl⟩)
              | (go_at_call 25; refine (lanesInWord_any _ _ _ c _ (by omega) (by omega) (by omega) (Nat.le_of_lt hJP.out) HC.out).mono ?_; rintro e w'' ⟨rfl, rfl⟩)
              | (go_at_call 24; refine (packWord_any _ ((xs.drop q).take c) wd _ HPT.out (by omega) (by omega) (by rw [HCL.out]; omega) HXV.out).mono ?_; rintro e w'' ⟨rfl, rfl⟩; rw [← HGP.out]))
            go_roundw
            case rel =>
              refine ⟨j + 1, by omega, by go_num, ?_, below_set hb _ _ _ (Nat.le_refl _), ?_⟩
              · have hs := HR.out.set j (.int .u64 (y : Int))
                rw [set_fill _ _ _ _ _ (by simp [u64s]; omega) (by omega)] at hs
                rw [List.take_succ_eq_append_getElem (by omega), u64s_append, ← Nat.sub_sub m j 1]
                have e : (L.packL wd xs)[j]'(by omega) = y := by
                  have := HY.out
                  simpa [List.getD, List.getElem?_eq_getElem (show j < (L.packL wd xs).length by omega)] using this
                rw [e]
                exact hs
              · show _ = _; rw [← hz.out]; simp [World.setCell]
            case measure => simp [intOf]; omega
          · go_wp2
            go_ret2
            obtain rfl : j = m := by omega
            have hpk : packR (wd : Int) xs = L.packL wd xs := by rw [packR, if_pos HOK.out, Int.toNat_natCast]
            refine ⟨.slice (some ⟨w'.heap.size, 0, none⟩) j j, by rw [HOK.out]; rfl, ?_, hb⟩
            rw [hpk, hpl]
            refine Row.owns ?_ (Nat.le_refl _) (by simp [u64s, hpl]) (by unfold maxLen; omega)
            rw [show List.take j (L.packL wd xs) = L.packL wd xs from by rw [← hpl, List.take_length], Nat.sub_self] at hr
            simpa using hr
  · have hno : okVals wd xs = false := by simp [okVals, okLim]; intro a b c; omega
    go_enter Try.func10, Try.ntmps10
    go_wp2_with (go_at_call 20; refine (inLimits_any _ _ _).mono ?_; rintro e w' ⟨rfl, rfl⟩; rw [decide_eq_false hin])
    go_ret2
    exact ⟨.slice none 0 0, by rw [hno]; rfl, by rw [packR, hno]; exact World.ownsRow_nil _ _ _ _, Below.refl _ _⟩

/-- what Unpack answers -/
def unpackR (wd n : Int) (xs : List Nat) : List Nat := if okPack wd n xs = true then L.lanesL wd.toNat n.toNat xs else []

theorem lay_fill (A vs : List Value) (n : Nat) (z : Value) (q : Nat) (hq : q = A.length) (h : vs.length ≤ n) : lay (A ++ List.replicate n z) q vs = A ++ vs ++ List.replicate (n - vs.length) z := by
  subst hq
  unfold lay
  rw [List.take_left, List.drop_append, List.drop_eq_nil_of_le (by omega)]
  simp
theorem lanes_chunk (wd n p k c : Nat) (xs : List Nat) (h0 : 0 < wd) (h : wd ≤ 64) (hp : 64 / wd = p) (hc : c = min p (n - k * p)) :
    ((L.lanesL wd n xs).drop (k * p)).take p = (List.range c).map fun j => xs.getD k 0 / 2 ^ (j * wd) % 2 ^ wd := by
  have hpp := L.per_pos h0 h
  rw [hp] at hpp
  apply List.ext_getElem?
  intro j
  rw [List.getElem?_take]
  by_cases hj : j < c
  · rw [if_pos (by omega), List.getElem?_drop, L.lanesL, List.getElem?_map, List.getElem?_range (by omega), List.getElem?_map, List.getElem?_range hj]
    have hjp : j < p := by omega
    have e1 : (k * p + j) / p = k := by rw [Nat.mul_comm k p, Nat.mul_add_div hpp, Nat.div_eq_of_lt hjp, Nat.add_zero]
    have e2 : (k * p + j) % p = j := by rw [Nat.mul_comm k p, Nat.mul_add_mod, Nat.mod_eq_of_lt hjp]
    simp only [Option.map_some, L.laneOf, hp, show wd ≠ 0 from by omega, if_false, e1, e2]
  · rw [List.getElem?_eq_none (l := List.map _ _) (by simp; omega)]
    split
    · rw [List.getElem?_drop, List.getElem?_eq_none]; simp [L.lanesL]; omega
    · rfl

set_option maxHeartbeats 2000000 in
theorem Unpack_any (v : Value) (xs : List Nat) (wd n : Int) (w : World) (hx : Rd w v xs.length 1 (u64s xs)) (hv : ∀ x ∈ xs, x < 18446744073709551616) (hl : xs.length ≤ maxLen) :
    Calls Try.prog 13 #[v, .int .i64 wd, .int .i64 n] w fun e w' => ∃ r, e = .returned (.tuple #[r, .bool (okPack wd n xs)]) ∧
      w'.ownsRow w.heap.size 22 1 r (unpackR wd n xs).length (u64s (unpackR wd n xs)) ∧ Below w.heap.size w w' := by
  have HISP := hid (isPacking_any v xs wd n w hx hv hl)
  unfold maxLen at hl
  obtain ⟨A, ca, rfl, hlc, hcm, hA⟩ := hx.form
  have HX := hid hx
  clear hx
  cases hok : okPack wd n xs
  · rw [hok] at HISP
    have hf : unpackR wd n xs = [] := by rw [unpackR, hok]; rfl
    clear hok
    go_enter Try.func13, Try.ntmps13
    go_wp2_with (go_at_call 28; refine HISP.out.mono ?_; rintro e w' ⟨rfl, rfl⟩)
    go_ret2
    exact ⟨.slice none 0 0, rfl, by rw [hf]; exact World.ownsRow_nil _ _ _ _, Below.refl _ _⟩
  · rw [hok] at HISP
    have hin : 0 ≤ wd ∧ wd ≤ 64 ∧ 0 ≤ n ∧ n ≤ 65536 := by
      have := hok; simp only [okPack, okLim, Bool.and_eq_true, decide_eq_true_eq] at this; exact this.1
    obtain ⟨wd, rfl⟩ := Int.eq_ofNat_of_zero_le hin.1
    obtain ⟨n, rfl⟩ := Int.eq_ofNat_of_zero_le hin.2.2.1
    have hwd : wd ≤ 64 := by omega
    have hn : n ≤ 65536 := by omega
    have HIP := hid ((okPack_nat xs hwd hn).1 hok)
    have HF : Hid (unpackR (wd : Int) (n : Int) xs = L.lanesL wd n xs) := by refine hid ?_; rw [unpackR, hok]; rfl
    clear hok hin
    go_enter Try.func13, Try.ntmps13
    go_wp2_with (go_at_call 28; refine HISP.out.mono ?_; rintro e w' ⟨rfl, rfl⟩)
    refine upon_make 22 (.int .u64 0) 8 Try.underlying31 Try.info45 rfl n (by omega) (by omega) (by omega) (by unfold maxLen; omega) ?_
    intro w1 hrow hb1 hsz1
    have HZ1 := hid hsz1
    clear hsz1
    go_wp2
    go_loopw [21] (fun i wr => ∃ k : Nat, k ≤ xs.length ∧ i = .int .i64 k ∧ Row wr w'.heap.size 22 (u64s ((L.lanesL wd n xs).take (k * (64 / wd))) ++ List.replicate (n - k * (64 / wd)) (.int .u64 0)) ∧ Below w'.heap.size w' wr ∧ Hid (wr.heap.size = w'.heap.size + 1)) (fun i _ => xs.length - (intOf i).toNat)
    case atStart => exact ⟨0, by omega, rfl, by simpa [u64s] using hrow, hb1, HZ1⟩
    case round =>
      obtain ⟨k, hk, rfl, hr, hb, hz⟩ := hrel
      clear hrow hb1 HZ1
      have HR := hid hr
      clear hr
      by_cases hlt : k < xs.length
      · obtain ⟨b, o, rfl, hs⟩ := hA (by omega)
        have hw0 : 0 < wd := by
          rcases Nat.eq_zero_or_pos wd with h | h
          · exfalso; subst h; have := HIP.out.1; rw [L.nWords_zero] at this; omega
          · exact h
        have hkp : k * (64 / wd) < n := (L.lt_nWords hw0 hwd).1 (by rw [← HIP.out.1]; exact hlt)
        have hpp := L.per_pos hw0 hwd
        obtain ⟨c, hc⟩ : ∃ c, L.inWord wd n k = c := ⟨_, rfl⟩
        have hcw : c * wd ≤ 64 := by rw [← hc]; exact L.inWord_le wd _ k
        have HKP := hid hkp
        obtain ⟨p, hp⟩ : ∃ p, 64 / wd = p := ⟨_, rfl⟩
        rw [hp] at hkp HR hpp
        have HCC : Hid (c = min p (n - k * p)) := by refine hid ?_; rw [← hc, L.inWord, hp]
        have HCH := hid (lanes_chunk wd n p k c xs hw0 hwd hp HCC.out)
        obtain ⟨q, hq⟩ : ∃ q, k * p = q := ⟨_, rfl⟩
        have hq' : (k : Int) * (p : Int) = (q : Int) := by rw [← hq]; simp
        rw [hq] at hkp HR HCC HCH
        have hcq : q + c ≤ n := by have := HCC.out; omega
        have hc1 : 1 ≤ c := by have := HCC.out; omega
        have hc2 : c ≤ p := by have := HCC.out; omega
        have c1 := (hs.mono (hb.mono (Nat.le_refl _))).word k hlt
        have HVK := hid (hv (xs.getD k 0) (by simp [List.getD, List.getElem?_eq_getElem hlt]))
        have HC := hid hc; have HP := hid hp; have HQ := hid hq
        have hll : (L.lanesL wd n xs).length = n := L.lanesL_length _ _ _
        have HLL := hid hll
        clear hA hs hc hp hq hv hll
        generalize xs.getD k 0 = x at *
        go_wp2_with (first
          | (go_at_call 23; refine (lanesPerWord_any _ p _ (by omega) (by omega) HP.out).mono ?_; rintro e w'' ⟨rfl, rfl⟩)
          | (go_at_call 25; refine (lanesInWord_any _ _ _ c _ (by omega) (by omega) (by omega) (Nat.le_of_lt HKP.out) HC.out).mono ?_; rintro e w'' ⟨rfl, rfl⟩)
          | (go_at_call 29; refine (unpackWord_any _ q c (n - q) wd x _ _ HR.out (by have := HLL.out; simp [u64s]; omega) (by omega) hw0 hwd HVK.out hcw).mono ?_; rintro e w2 ⟨rfl, hr2, hb2, hz2⟩; have HZ2 := hid hz2; clear hz2))
        go_roundw
        case rel =>
          refine ⟨k + 1, by omega, by go_num, ?_, hb.trans hb2, ?_⟩
          · have e1 : (k + 1) * (64 / wd) = q + p := by rw [HP.out, Nat.succ_mul, HQ.out]
            have e2 : (L.lanesL wd n xs).take (q + p) = (L.lanesL wd n xs).take q ++ ((L.lanesL wd n xs).drop q).take p := by rw [List.take_add]
            rw [e1, e2, HCH.out, u64s_append]
            rw [lay_fill _ _ _ _ _ (by have := HLL.out; simp [u64s]; omega) (by simp [u64s]; omega)] at hr2
            have e3 : n - (q + p) = n - q - c := by have := HCC.out; omega
            rw [e3]
            simpa [u64s] using hr2
          · show _ = _; rw [HZ2.out]; exact hz.out
        case measure => simp [intOf]; omega
      · go_wp2
        go_ret2
        obtain rfl : k = xs.length := by omega
        refine ⟨.slice (some ⟨w'.heap.size, 0, none⟩) n n, rfl, ?_, hb⟩
        rw [HF.out, L.lanesL_length]
        refine Row.owns ?_ (Nat.le_refl _) (by simp [u64s, L.lanesL]) (by unfold maxLen; omega)
        have hr := HR.out
        by_cases h0 : wd = 0
        · subst h0
          have e : u64s (L.lanesL 0 n xs) = List.replicate n (.int .u64 0) := by
            apply List.eq_replicate_iff.2
            refine ⟨by simp [u64s, L.lanesL], fun b hb => ?_⟩
            simp only [u64s, L.lanesL, L.laneOf, if_true, List.mem_map] at hb
            obtain ⟨_, ⟨_, _, rfl⟩, rfl⟩ := hb
            rfl
          rw [e]
          simpa [u64s] using hr
        · have hge : n ≤ xs.length * (64 / wd) := by
            have h1 := (L.lt_nWords (n := n) (k := xs.length) (by omega) hwd).2
            rw [← HIP.out.1] at h1
            rcases Nat.lt_or_ge (xs.length * (64 / wd)) n with h2 | h2
            · have := h1 h2; omega
            · exact h2
          rw [List.take_of_length_le (by rw [L.lanesL_length]; exact hge), show n - xs.length * (64 / wd) = 0 from by omega] at hr
          simpa using hr
end Go.Proofs.Ytgobcaianpmbiab
