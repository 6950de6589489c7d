/- The document's leaf as mathematics: the hits that are counted over the literals. -/
import Derived.Test.YthonbfojpbfmgaaGreatDoorLawfilteruptoB17
import Derived.Test.YthonbfojpbfmgaaGreatDoorLawfilteruptoB10
import Derived.Test.YthonbfojpbfmgaaGreatDoorLawfilteruptoB8
import Derived.Test.YthonbfojpbfmgaaGreatDoorLawfilteruptoB1
import Derived.Deep.CutBlock
import Derived.Deep.RegionHeld3
import Derived.Deep.DeepMust
import Derived.Test.YthonbfojpbfmgaaGreatDoorLawfilteruptoB9
import Derived.Test.YthonbfojpbfmgaaGreatDoorLawfilteruptoB5
set_option linter.unusedVariables false
set_option linter.unusedSimpArgs false
set_option linter.unnecessarySimpa false
set_option maxRecDepth 100000
namespace Go.Proofs.YthonbfojpbfmgaaGreatDoor
open Go.RowKit

/-- the value of a cell that is not NULL -/
def pvOf (c : C3) : PV := (c.i, c.s)
/-- the relation that the literal of place i is asked by -/
def opAt (op : Int) (i : Nat) : Int := if op = 7 then 1 else if op = 8 then 6 - 2 * (i : Int) else op
def hitB (op : Int) (v : PV) (az : List C3) (k : Nat) : Bool := standsS (opAt op k) (ordP v (pvOf (az.getD k C3.df)))
def hitN (op : Int) (v : PV) (az : List C3) : Nat → Nat
  | 0 => 0
  | k + 1 => hitN op v az k + (hitB op v az k).toNat
/-- what a leaf is for a cell -/
def leafV (op : Int) (az : List C3) (nl : Bool) (v : PV) : Int := if nl = true ∨ op = 9 then (if op = 9 then (if nl = true then 2 else 0) else 1) else (if leafT op (az.map pvOf) v = true then 2 else 0)
/-- does the count of the hits make the leaf TRUE? -/
def hitYes (op : Int) (h : Nat) : Bool := if op = 8 then decide (h = 2) else decide (0 < h)
theorem hitN_le (op : Int) (v : PV) (az : List C3) : ∀ k, hitN op v az k ≤ k
  | 0 => Nat.le_refl 0
  | k + 1 => by
    have := hitN_le op v az k
    have h2 : (hitB op v az k).toNat ≤ 1 := by cases hitB op v az k <;> decide
    show hitN op v az k + _ ≤ k + 1
    omega
theorem hitN_pos (op : Int) (v : PV) (az : List C3) : ∀ k, 0 < hitN op v az k ↔ ∃ j, j < k ∧ hitB op v az j = true
  | 0 => by simp [hitN]
  | k + 1 => by
    have ih := hitN_pos op v az k
    show 0 < hitN op v az k + _ ↔ _
    cases hb : hitB op v az k
    · simp only [Bool.toNat_false, Nat.add_zero, ih]
      constructor
      · rintro ⟨j, h1, h2⟩; exact ⟨j, by omega, h2⟩
      · rintro ⟨j, h1, h2⟩
        refine ⟨j, ?_, h2⟩
        by_cases hj : j = k
        · subst hj; rw [hb] at h2; cases h2
        · omega
    · simp only [Bool.toNat_true]
      exact ⟨fun _ => ⟨k, by omega, hb⟩, fun _ => by omega⟩
theorem standsS_eq (s : Int) : standsS 1 s = decide (s = 0) := by simp [standsS, Bool.beq_eq_decide_eq]
theorem standsS_ge (s : Int) : standsS 6 s = decide (0 ≤ s) := by simp [standsS]
theorem standsS_le (s : Int) : standsS 4 s = decide (s ≤ 0) := by simp [standsS]
theorem getD_map_pv (az : List C3) (j : Nat) (h : j < az.length) : (az.map pvOf).getD j dfP = pvOf (az.getD j C3.df) := by simp [List.getD, h]
theorem leaf_hits (k op col : Int) (v : PV) (az : List C3) (h : leafR k ⟨op, col, az⟩ = true) (h9 : op ≠ 9) : leafT op (az.map pvOf) v = hitYes op (hitN op v az az.length) := by
  unfold leafR takesB at h
  simp only [Bool.and_eq_true] at h
  obtain ⟨h, _⟩ := h
  unfold leafT hitYes
  by_cases h7 : op = 7
  · subst h7
    rw [if_pos rfl, if_neg (by decide), Bool.eq_iff_iff, decide_eq_true_eq, hitN_pos, List.any_eq_true]
    constructor
    · rintro ⟨x, h1, h2⟩
      obtain ⟨j, hj, rfl⟩ := List.mem_iff_getElem.1 h1
      simp only [List.length_map] at hj
      refine ⟨j, hj, ?_⟩
      unfold hitB opAt
      rw [if_pos rfl, standsS_eq, ← getD_map_pv az j hj]
      simpa [List.getD, hj, eqP] using h2
    · rintro ⟨j, hj, h2⟩
      unfold hitB opAt at h2
      rw [if_pos rfl, standsS_eq, ← getD_map_pv az j hj] at h2
      exact ⟨(az.map pvOf)[j]'(by simpa using hj), List.getElem_mem _, by simpa [List.getD, hj, eqP] using h2⟩
  · by_cases h8 : op = 8
    · subst h8
      rw [if_neg (by decide), if_pos rfl, decide_eq_true_eq] at h
      rw [if_neg (by decide), if_pos rfl, if_pos rfl, h]
      have g0 := getD_map_pv az 0 (by omega)
      have g1 := getD_map_pv az 1 (by omega)
      rw [g0, g1]
      show _ = decide (0 + (hitB 8 v az 0).toNat + (hitB 8 v az 1).toNat = 2)
      have e0 : hitB 8 v az 0 = decide (0 ≤ ordP v (pvOf (az.getD 0 C3.df))) := by
        unfold hitB opAt
        rw [if_neg (by decide), if_pos rfl]
        exact standsS_ge _
      have e1 : hitB 8 v az 1 = decide (ordP v (pvOf (az.getD 1 C3.df)) ≤ 0) := by
        unfold hitB opAt
        rw [if_neg (by decide), if_pos rfl]
        exact standsS_le _
      rw [← e0, ← e1]
      cases hitB 8 v az 0 <;> cases hitB 8 v az 1 <;> rfl
    · rw [if_neg h7, if_neg h8, if_neg h9] at h
      rw [if_neg h7, if_neg h8, if_neg h8]
      simp only [Bool.and_eq_true, decide_eq_true_eq] at h
      rw [h.2, getD_map_pv az 0 (by omega)]
      have e0 : hitB op v az 0 = standsS op (ordP v (pvOf (az.getD 0 C3.df))) := by
        unfold hitB opAt
        rw [if_neg h7, if_neg h8]
      show _ = decide (0 < 0 + (hitB op v az 0).toNat)
      rw [← e0]
      cases hitB op v az 0 <;> rfl
/-- the code that is due -/
def rfCode (kind rows op col : Int) (args : List C3) (xs : List Nat) : Int := if refCode kind rows xs = 0 then (if leafR kind ⟨op, col, args⟩ = true then 0 else 2) else refCode kind rows xs
/-- what the leaf is in a row -/
def rfV (kd rows : Nat) (op : Int) (args : List C3) (xs : List Nat) (r : Nat) : Int := leafV op args (cA (rWs rows xs) r) (cB (rWs rows xs) (rPay kd rows xs).2 r, cC (rWs rows xs) (rPay kd rows xs).2 r)
def rfB (kd rows : Nat) (op : Int) (args : List C3) (xs : List Nat) (t : Int) (n : Nat) : List Bool := (List.range n).map fun r => decide (rfV kd rows op args xs r = t)
/-- the words of the bitmap of those rows in which the leaf is t -/
def rfZ (kind rows op col : Int) (args : List C3) (xs : List Nat) (t : Int) : List Nat := if rfCode kind rows op col args xs = 0 then bmL (rfB kind.toNat rows.toNat op args xs t rows.toNat) else []
theorem rfB_get (kd rows : Nat) (op : Int) (args : List C3) (xs : List Nat) (t : Int) (n r : Nat) (h : r < n) : (rfB kd rows op args xs t n).getD r false = decide (rfV kd rows op args xs r = t) := by
  simp [rfB, List.getD, h]
theorem rfB_len (kd rows : Nat) (op : Int) (args : List C3) (xs : List Nat) (t : Int) (n : Nat) : (rfB kd rows op args xs t n).length = n := by simp [rfB]
end Go.Proofs.YthonbfojpbfmgaaGreatDoor

/- bitvec's setPlaces and Indexes. -/
set_option linter.unusedVariables false
set_option linter.unusedSimpArgs false
set_option linter.unnecessarySimpa false
set_option maxRecDepth 20000
namespace Go.Proofs.YthonbfojpbfmgaaGreatDoor
open Go.RowKit

theorem upon_make0 {P : Program} {w : World} {o : Oper} {a : Act} {K : Act → World → Prop} {Q : Exit → Act → World → Prop} {t : TypeId} {kl kc : IntKind} {L C : Int}
    (e : TypeId) (z : Value) (bytes : Nat) (h1 : P.underlying t = some (.slice e)) (h2 : (P.info? e).map (fun i => (i.zero, i.size, i.bytes)) = some (some z, 1, bytes)) (hz : z.cells = #[z])
    (n : Nat) (hL : L = 0) (hC : C = (n : Int)) (b2 : bytes * n ≤ 281474976710656) (b3 : n ≤ maxLen)
    (hK : ∀ v' w', w'.ownsRow w.heap.size e 1 v' 0 [] → Below w.heap.size w w' → K (a.put o.dst v') w') :
    o.upon P a K Q ((Sem.run P (Instr.makeSlice t (.int kl L) (.int kc C)) w).andThen fun b w' => Result.ok (Next.value b) w') := by
  obtain ⟨i, hi, hz0, hz1, hz2⟩ := info_parts h2
  subst hL
  subst hC
  have hb : (i.bytes : Int) * (n : Int) ≤ 281474976710656 := by
    have h : ((i.bytes * n : Nat) : Int) ≤ 281474976710656 := by rw [hz2]; omega
    rwa [Int.natCast_mul] at h
  have h63 : (n : Int) ≤ 9223372036854775807 := by
    unfold maxLen at b3; omega
  have hr := run_make (P := P) w t e i z h1 hi hz0 kl kc 0 n (by omega) (by omega) hb h63
  simp only [Int.toNat_natCast, hz1, hz] at hr
  refine upon_ok hr (hK _ _ ?_ ((Below.refl _ _).alloc (Nat.le_refl _) _))
  have hrow : Row (w.alloc (.cells (madeCells #[z] (n * 1)) e)) w.heap.size e (List.replicate n z) := by
    unfold Row
    rw [heap_alloc_new]
    congr 2
    apply Array.ext'
    simp [toList_madeCells_one]
  refine ⟨rfl, .inr ⟨w.heap.size, n, (List.replicate n z).toArray, rfl, Nat.le_refl _, hrow, Nat.zero_le _, b3, by simp, by simp⟩⟩

set_option maxHeartbeats 2000000 in
theorem setPlaces_any (v : Value) (xs : List Nat) (w : World) (ht : Tab w) (hx : Rd w v xs.length 1 (u64s xs)) (hv : ∀ x ∈ xs, x < 18446744073709551616) (hl : xs.length ≤ 65536) :
    Calls Tryz.prog 97 #[v] w fun e w' => ∃ r, e = .returned r ∧ w'.ownsRow w.heap.size 3 1 r (idxN xs (64 * xs.length)).length (ints (idxN xs (64 * xs.length))) ∧ Below w.heap.size w w' := by
  have HCS := hid (countSet_any v xs w hx hv hl)
  have HT := hid ht
  have HTL := hid ht.lt
  have HV := hid hv
  obtain ⟨A, ca, rfl, hlc, hcm, hA⟩ := hx.form
  have hpl := popL_le xs
  obtain ⟨pc, hpc⟩ : ∃ pc, popL xs = pc := ⟨_, rfl⟩
  rw [hpc] at HCS hpl
  clear hx hv ht hlc hcm hpc
  go_enter Tryz.func97, Tryz.ntmps97
  go_wp2_with (go_at_call 66; refine HCS.out.mono ?_; rintro e w' ⟨rfl, hw⟩; replace hw := hw.symm; subst hw)
  refine upon_make0 3 (.int .i64 0) 8 Tryz.underlying92 Tryz.infoInt rfl pc (by omega) (by omega) (by omega) (by unfold maxLen; omega) ?_
  intro v1 w1 ho1 hb1
  have HO1 := hid ho1
  clear ho1
  go_wp2
  go_loopw [3, 11] (fun v3 i wr => ∃ k : Nat, k ≤ xs.length ∧ i = .int .i64 k ∧ wr.ownsRow w.heap.size 3 1 v3 (idxN xs (64 * k)).length (ints (idxN xs (64 * k))) ∧ Below w.heap.size w wr) (fun _ i _ => xs.length - (intOf i).toNat)
  case atStart => exact ⟨0, by omega, rfl, by simpa [idxN, ints] using HO1.out, hb1⟩
  case round =>
    obtain ⟨k, hk, rfl, hown, hb⟩ := hrel
    have HOWN := hid hown
    clear hown hb1 HO1
    by_cases hlt : k < xs.length
    · obtain ⟨b, o, rfl, hs⟩ := hA (by omega)
      have c1 := (hs.mono (hb.mono (Nat.le_refl _))).word k hlt
      have HF := hid (rest_first xs k HV.out hlt)
      have hwb := hb
      clear hs hA
      generalize xs.getD k 0 = x at *
      go_wp2
      go_loopw [3, 5] (fun v3 y wr => ∃ (t z : Nat), y = .int .u64 z ∧ Hid (Rest xs k t z) ∧ wr.ownsRow w.heap.size 3 1 v3 (idxN xs (64 * k + t)).length (ints (idxN xs (64 * k + t))) ∧ Below w.heap.size w wr) (fun _ y _ => (intOf y).toNat)
      case atStart => exact ⟨0, x, rfl, HF, by simpa using HOWN.out, hb⟩
      case round =>
        obtain ⟨t, z, rfl, HRST, hown2, hb2⟩ := hrel
        have HOWN2 := hid hown2
        clear hown2 HOWN HF
        have hz64 : z < 18446744073709551616 := HRST.out.2.1
        by_cases hz : z = 0
        · have hze : ((z : Int) != 0) = false := by simpa using hz
          have HZ := hid hz
          clear hz
          go_wp2
          go_roundw
          case rel =>
            refine ⟨k + 1, by omega, by go_num, ?_, hb2⟩
            rw [rest_zero (by rw [← HZ.out]; exact HRST.out)]
            exact HOWN2.out
          case measure => simp [intOf]; omega
        · have hze : ((z : Int) != 0) = true := by simpa using hz
          have HNX := hid (rest_next HRST.out hz)
          have HTZ := hid (fun (w2 : World) (h : Tab w2) => trailingZeros_any z w2 hz hz64 h)
          have hz1 : IntKind.u64.wrap ((z : Int) - 1) = ((z - 1 : Nat) : Int) := by rw [IntKind.wrap_u64]; omega
          have hz2 := u64_and_nat z (z - 1) hz64 (by omega)
          have hle := idxN_le xs (64 * k + t)
          have hc64 := HNX.out.2.2.1
          have hzlt := HNX.out.2.2.2
          have ht64 := HRST.out.1
          have HTW := hid (HT.out.mono hb2 HTL.out)
          generalize Lib.ctz 64 z = c at *
          generalize z &&& (z - 1) = z' at *
          generalize z - 1 = zm at *
          clear hz HRST
          generalize hI : idxN xs (64 * k + t) = I at *
          have HI := hid hI
          clear hI
          go_wp2_with (first | (go_at_call 148; refine (HTZ.out _ HTW.out).mono ?_; rintro e w' ⟨rfl, hw⟩; replace hw := hw.symm; subst hw) | (at_builtin; refine wpList_append1 rfl (.tmp 22) (.tmp 28) rfl 3 (.int .i64 0) 8 Tryz.underlying92 Tryz.infoInt rfl rfl rfl HOWN2.out hb2.size (by rfl) (by unfold maxLen; omega) (by omega) ?_; intro v' w' ho hb3 _))
          go_roundw
          case rel =>
            refine ⟨c + 1, z', by first | rfl | (rw [hz1, hz2]), hid HNX.out.2.1, ?_, hb2.trans hb3⟩
            rw [HNX.out.1, ints_snoc, List.length_append]
            have e : (k : Int) * 64 + (c : Int) = ((64 * k + c : Nat) : Int) := by omega
            first | (rw [← e]; exact ho) | exact ho
          case measure => simp [intOf]; omega
    · go_wp2
      go_ret
      rw [show k = xs.length from by omega] at HOWN
      exact ⟨_, rfl, HOWN.out, hb⟩

end Go.Proofs.YthonbfojpbfmgaaGreatDoor

/- bitvec's Dense and the plain answer's. -/
set_option linter.unusedVariables false
set_option linter.unusedSimpArgs false
set_option linter.unnecessarySimpa false
set_option maxRecDepth 20000
namespace Go.Proofs.YthonbfojpbfmgaaGreatDoor
open Go.RowKit

theorem bitOf_zeros (k j : Nat) : bitOf (List.replicate k 0) j = false := by
  unfold bitOf
  have : (List.replicate k 0).getD (j / 64) 0 = 0 := by
    simp only [List.getD, List.getElem?_replicate]; split <;> rfl
  rw [this, Nat.zero_testBit]

end Go.Proofs.YthonbfojpbfmgaaGreatDoor

/- Package kernel: bitmaps: new ones, ranges of bits, what is in one or the other, in both. -/
set_option linter.unusedVariables false
set_option linter.unusedSimpArgs false
set_option linter.unnecessarySimpa false
set_option maxRecDepth 100000
namespace Go.Proofs.YthonbfojpbfmgaaGreatDoor
open Go.RowKit

theorem newBitmap_any (n : Nat) (w : World) (hn : n ≤ 1048576) :
    Calls Tryz.prog 51 #[.int .i64 n] w fun e w' => e = .returned (.slice (some ⟨w.heap.size, 0, none⟩) ((n + 63) / 64) ((n + 63) / 64)) ∧
      Row w' w.heap.size 40 (u64s (List.replicate ((n + 63) / 64) 0)) ∧ Below w.heap.size w w' ∧ w'.heap.size = w.heap.size + 1 := by
  obtain ⟨q, hq⟩ : ∃ q, (n + 63) / 64 = q := ⟨_, rfl⟩
  have hq2 : ((n : Int) + 63) / 64 = (q : Int) := by omega
  have hq3 : q ≤ 1048576 := by omega
  rw [hq]
  clear hq
  go_enter Tryz.func51, Tryz.ntmps51
  go_wp2
  refine upon_make 40 (.int .u64 0) 8 Tryz.underlying28 Tryz.info45 rfl q (by omega) (by omega) (by omega) (by unfold maxLen; omega) ?_
  intro w1 hrow hb1 hsz1
  have hrow2 : Row w1 w.heap.size 40 (u64s (List.replicate q 0)) := by
    have e : u64s (List.replicate q 0) = List.replicate q (.int .u64 0) := by simp [u64s, u64]
    rw [e]; exact hrow
  have HROW := hid hrow2
  clear hrow hrow2
  go_wp2
  go_ret
  exact ⟨rfl, HROW.out, hb1, hsz1⟩
theorem testBit_range (k r p : Nat) : ((2 ^ k - 1) * 2 ^ r).testBit p = (decide (r ≤ p) && decide (p < r + k)) := by
  rw [← Nat.shiftLeft_eq, Nat.testBit_shiftLeft, Nat.testBit_two_pow_sub_one]
  by_cases h : r ≤ p
  · simp only [h, decide_true, Bool.true_and]
    rw [decide_eq_decide]; omega
  · simp [h]
theorem range_lt (k r : Nat) (h : k + r ≤ 64) : (2 ^ k - 1) * 2 ^ r < 18446744073709551616 := by
  have h1 : (2 ^ k - 1) * 2 ^ r < 2 ^ k * 2 ^ r := Nat.mul_lt_mul_of_pos_right (by have := Nat.two_pow_pos k; omega) (Nat.two_pow_pos r)
  rw [← Nat.pow_add] at h1
  have h2 : 2 ^ (k + r) ≤ 2 ^ 64 := Nat.pow_le_pow_right (by omega) h
  have h3 : (2 : Nat) ^ 64 = 18446744073709551616 := by decide
  omega
theorem or_lt_64 {a b : Nat} (ha : a < 18446744073709551616) (hb : b < 18446744073709551616) : a ||| b < 18446744073709551616 := by
  have h3 : (2 : Nat) ^ 64 = 18446744073709551616 := by decide
  rw [← h3] at ha hb ⊢
  exact Nat.or_lt_two_pow ha hb
theorem mem_set64 {zs : List Nat} {d v : Nat} (hz : ∀ x ∈ zs, x < 18446744073709551616) (hv : v < 18446744073709551616) : ∀ x ∈ zs.set d v, x < 18446744073709551616 := by
  intro x hx
  rcases List.mem_or_eq_of_mem_set hx with h | h
  · exact hz x h
  · rw [h]; exact hv
theorem getD64 {zs : List Nat} (hz : ∀ x ∈ zs, x < 18446744073709551616) (d : Nat) : zs.getD d 0 < 18446744073709551616 := by
  by_cases h : d < zs.length
  · have : zs.getD d 0 = zs[d] := by simp [List.getD, List.getElem?_eq_getElem h]
    rw [this]; exact hz _ (List.getElem_mem h)
  · have : zs.getD d 0 = 0 := by simp [List.getD, List.getElem?_eq_none (Nat.le_of_not_lt h)]
    rw [this]; decide
theorem bitOf_or_range (zs : List Nat) (s k : Nat) (hd : s / 64 < zs.length) (hk : k + s % 64 ≤ 64) (i : Nat) :
    bitOf (zs.set (s / 64) (zs.getD (s / 64) 0 ||| (2 ^ k - 1) * 2 ^ (s % 64))) i = (bitOf zs i || (decide (s ≤ i) && decide (i < s + k))) := by
  unfold bitOf
  by_cases hq : i / 64 = s / 64
  · have e : (zs.set (s / 64) (zs.getD (s / 64) 0 ||| (2 ^ k - 1) * 2 ^ (s % 64))).getD (i / 64) 0 = zs.getD (s / 64) 0 ||| (2 ^ k - 1) * 2 ^ (s % 64) := by
      rw [hq]; simp [List.getD, hd]
    rw [e, Nat.testBit_or, testBit_range, hq]
    congr 1
    rw [show decide (s % 64 ≤ i % 64) = decide (s ≤ i) from by rw [decide_eq_decide]; omega, show decide (i % 64 < s % 64 + k) = decide (i < s + k) from by rw [decide_eq_decide]; omega]
  · have e : (zs.set (s / 64) (zs.getD (s / 64) 0 ||| (2 ^ k - 1) * 2 ^ (s % 64))).getD (i / 64) 0 = zs.getD (i / 64) 0 := by
      simp only [List.getD]; rw [List.getElem?_set_ne (by omega)]
    rw [e]
    have : (decide (s ≤ i) && decide (i < s + k)) = false := by
      rw [← Bool.not_eq_true, Bool.and_eq_true, decide_eq_true_eq, decide_eq_true_eq]; omega
    rw [this, Bool.or_false]
/-- what a function that sets bits in a bitmap of the caller's leaves -/
def WordsOf (g n : Nat) (w w' : World) (F : Nat → Bool) : Prop := ∃ zs : List Nat, zs.length = n ∧ (∀ x ∈ zs, x < 18446744073709551616) ∧ (∀ i, bitOf zs i = F i) ∧ Row w' g 40 (u64s zs) ∧ Chg g g w w' ∧ w'.heap.size = w.heap.size
set_option maxHeartbeats 2000000 in
theorem setRange_any (g n cap s0 e0 : Nat) (ys : List Nat) (w : World) (hr : Row w g 40 (u64s ys)) (hn : ys.length = n) (hse : s0 ≤ e0) (he : e0 ≤ 64 * n) (hn2 : n ≤ 1048576) (hnc : n ≤ cap) (hy : ∀ x ∈ ys, x < 18446744073709551616) :
    Calls Tryz.prog 150 #[.slice (some ⟨g, 0, none⟩) n cap, .int .i64 s0, .int .i64 e0] w fun e w' => e = .returned (.tuple #[]) ∧ WordsOf g n w w' (fun i => bitOf ys i || (decide (s0 ≤ i) && decide (i < e0))) := by
  have HR := hid hr; have HN := hid hn; have HY := hid hy
  clear hr hn hy
  go_enter Tryz.func150, Tryz.ntmps150
  go_wp2_with fail
  go_loopw [1] (fun i wr => ∃ s : Nat, s0 ≤ s ∧ s ≤ e0 ∧ i = .int .i64 s ∧ Hid (∃ zs : List Nat, zs.length = n ∧ (∀ x ∈ zs, x < 18446744073709551616) ∧ (∀ i, bitOf zs i = (bitOf ys i || (decide (s0 ≤ i) && decide (i < s)))) ∧ Row wr g 40 (u64s zs) ∧ Chg g g w wr ∧ wr.heap.size = w.heap.size)) (fun i _ => e0 - (intOf i).toNat)
  case atStart => exact ⟨s0, by omega, by omega, rfl, hid ⟨ys, HN.out, HY.out, fun i => by
    have : (decide (s0 ≤ i) && decide (i < s0)) = false := by rw [← Bool.not_eq_true, Bool.and_eq_true, decide_eq_true_eq, decide_eq_true_eq]; omega
    rw [this, Bool.or_false], HR.out, Chg.refl _ _ _, rfl⟩⟩
  case round =>
    obtain ⟨s, h1, h2, rfl, HZ⟩ := hrel
    obtain ⟨zs, hz1, hz2, hz3, hz4, hz5, hz6⟩ := HZ.out
    have HZ1 := hid hz1; have HZ2 := hid hz2; have HZ3 := hid hz3; have HZ4 := hid hz4; have HZ5 := hid hz5; have HZ6 := hid hz6
    clear hz1 hz2 hz3 hz4 hz5 hz6 HZ
    by_cases hlt : s < e0
    · have hdl : s / 64 < zs.length := by rw [HZ1.out]; omega
      have hcell : wr.cell? ⟨g, s / 64, none⟩ = some (.int .u64 ((zs.getD (s / 64) 0 : Nat) : Int)) := by rw [HZ4.out.cell]; exact u64s_get zs (s / 64) hdl
      have hfr := HZ4.out.frozen (s / 64)
      have HQL := hid (getD64 HZ2.out (s / 64))
      obtain ⟨st, hst⟩ : ∃ st, (if s / 64 * 64 + 64 < e0 then s / 64 * 64 + 64 else e0) = st := ⟨_, rfl⟩
      have hsv : s < st ∧ st ≤ e0 ∧ st ≤ s / 64 * 64 + 64 := by rw [← hst]; split <;> omega
      obtain ⟨k, hk⟩ : ∃ k, st - s = k := ⟨_, rfl⟩
      have hkr : k + s % 64 ≤ 64 := by omega
      have HBR := hid (bitOf_or_range zs s k hdl hkr)
      have HRL := hid (range_lt k (s % 64) hkr)
      have HLB := hid (low_bits k (by omega))
      have hminI : (if ((s / 64 : Nat) : Int) * 64 + 64 < (e0 : Int) then ((s / 64 : Nat) : Int) * 64 + 64 else (e0 : Int)) = (st : Int) := by rw [← hst]; split <;> split <;> omega
      have HMI := hid hminI
      have HMI2 : Hid (min (e0 : Int) (((s / 64 : Nat) : Int) * 64 + 64) = (st : Int)) := hid (by rw [← hst]; split <;> omega)
      have HSET := hid (fun (v : Nat) => HZ4.out.set (s / 64) (.int .u64 (v : Int)))
      have HCH := hid (fun (v : Value) => HZ5.out.setCell g (s / 64) v (.inl rfl))
      have HST := hid hst
      obtain ⟨d, hd⟩ : ∃ d, s / 64 = d := ⟨_, rfl⟩
      obtain ⟨r, hr'⟩ : ∃ r, s % 64 = r := ⟨_, rfl⟩
      have hd' : (s : Int) / 64 = (d : Int) := by omega
      have hrr : (s : Int) % 64 = (r : Int) := by omega
      have hsk : (st : Int) - (s : Int) = (k : Int) := by omega
      have hr64 : r < 64 := by omega
      rw [hd] at hcell hfr HQL HBR HMI HMI2 HSET HCH
      rw [hr'] at HBR HRL
      have hdn : d < n := by have := HZ1.out; omega
      have hst1 : s < st := hsv.1
      have hst2 : st ≤ e0 := hsv.2.1
      have HSK : Hid (s + k = st) := hid (by omega)
      have HKV := hid hk
      have hmn := HMI.out
      have hmn2 := HMI2.out
      clear hd hr' hst hsv hdl hkr hk hminI
      generalize zs.getD d 0 = q at *
      have hw1 := HLB.out
      obtain ⟨on, hon⟩ : ∃ on, 2 ^ k - 1 = on := ⟨_, rfl⟩
      rw [hon] at hw1 HRL HBR
      have hw2 : IntKind.u64.wrap ((on : Int) * 2 ^ r) = ((on * 2 ^ r : Nat) : Int) := by
        rw [show (on : Int) * 2 ^ r = ((on * 2 ^ r : Nat) : Int) by simp]; exact wrap_u64_nat _ HRL.out
      generalize on * 2 ^ r = sh at *
      have HOR := hid (u64_or_nat q sh HQL.out HRL.out)
      have HOL := hid (or_lt_64 HQL.out HRL.out)
      clear hon HLB
      have hor := HOR.out
      go_wp2_with fail
      go_roundw
      case rel =>
        refine ⟨st, by omega, by omega, rfl, hid ⟨zs.set d (q ||| sh), by rw [List.length_set]; exact HZ1.out, mem_set64 HZ2.out HOL.out, fun i => ?_, ?_, HCH.out _, by simpa [World.setCell] using HZ6.out⟩⟩
        · rw [HBR.out i, HZ3.out i, Bool.or_assoc]
          congr 1
          rw [HSK.out, Bool.eq_iff_iff]
          simp only [Bool.or_eq_true, Bool.and_eq_true, decide_eq_true_eq]
          omega
        · rw [← u64s_set]
          exact HSET.out (q ||| sh)
      case measure => simp [intOf]; omega
    · obtain rfl : s = e0 := by omega
      go_wp2_with fail
      go_end0
      exact ⟨rfl, zs, HZ1.out, HZ2.out, HZ3.out, HZ4.out, HZ5.out, HZ6.out⟩
theorem Rd.atU {w : World} {D : Option Addr} {n m cd : Nat} {xs : List Nat} (h : Rd w (.slice D n cd) m 1 (u64s xs)) (h0 : 0 < m) : ∃ b o, D = some ⟨b, o, none⟩ ∧
    ∀ k, k < xs.length → w.cell? ⟨b, o + k, none⟩ = some (.int .u64 ((xs.getD k 0 : Nat) : Int)) := by
  rcases h.2 with ⟨_, rfl⟩ | ⟨b, o, cap', he, _, _, hs⟩
  · exact absurd h0 (Nat.lt_irrefl 0)
  · injection he with e1 e2 e3
    exact ⟨b, o, e1, fun k hk => hs.word k hk⟩
set_option maxHeartbeats 2000000 in
theorem unite_any (g n cap : Nat) (v : Value) (ys xs : List Nat) (w : World) (hr : Row w g 40 (u64s ys)) (hn : ys.length = n) (hx : ∀ w', Chg g g w w' → Rd w' v n 1 (u64s xs)) (hxn : xs.length = n) (hn2 : n ≤ 1048576) (hnc : n ≤ cap) (hy : ∀ x ∈ ys, x < 18446744073709551616) (hxv : ∀ x ∈ xs, x < 18446744073709551616) :
    Calls Tryz.prog 151 #[.slice (some ⟨g, 0, none⟩) n cap, v] w fun e w' => e = .returned (.tuple #[]) ∧ WordsOf g n w w' (fun i => bitOf ys i || bitOf xs i) := by
  have HR := hid hr; have HN := hid hn; have HY := hid hy; have HX := hid hx; have HXN := hid hxn; have HXV := hid hxv
  obtain ⟨A, ca, rfl, _, _, _⟩ := (hx w (Chg.refl _ _ _)).form
  clear hr hn hy hx hxn hxv
  go_enter Tryz.func151, Tryz.ntmps151
  go_wp2_with fail
  go_loopw [8] (fun i wr => ∃ j : Nat, j ≤ n ∧ i = .int .i64 j ∧ Hid (∃ zs : List Nat, zs.length = n ∧ (∀ x ∈ zs, x < 18446744073709551616) ∧ (∀ t, zs.getD t 0 = if t < j then ys.getD t 0 ||| xs.getD t 0 else ys.getD t 0) ∧ Row wr g 40 (u64s zs) ∧ Chg g g w wr ∧ wr.heap.size = w.heap.size)) (fun i _ => n - (intOf i).toNat)
  case atStart => exact ⟨0, by omega, rfl, hid ⟨ys, HN.out, HY.out, fun t => by rw [if_neg (Nat.not_lt_zero t)], HR.out, Chg.refl _ _ _, rfl⟩⟩
  case round =>
    obtain ⟨j, hj, rfl, HZ⟩ := hrel
    obtain ⟨zs, hz1, hz2, hz3, hz4, hz5, hz6⟩ := HZ.out
    have HZ1 := hid hz1; have HZ2 := hid hz2; have HZ3 := hid hz3; have HZ4 := hid hz4; have HZ5 := hid hz5; have HZ6 := hid hz6
    clear hz1 hz2 hz3 hz4 hz5 hz6 HZ
    by_cases hlt : j < n
    · obtain ⟨b, o, rfl, hs⟩ := Rd.atU (HX.out wr HZ5.out) (by omega)
      have l0 := hs j (by rw [HXN.out]; exact hlt)
      clear hs
      have hcell : wr.cell? ⟨g, j, none⟩ = some (.int .u64 ((zs.getD j 0 : Nat) : Int)) := by rw [HZ4.out.cell]; exact u64s_get zs j (by rw [HZ1.out]; exact hlt)
      have hfr := HZ4.out.frozen j
      have HJ : Hid (zs.getD j 0 = ys.getD j 0) := hid (by rw [HZ3.out, if_neg (by omega)])
      have HQL := hid (getD64 HZ2.out j)
      have HXL := hid (getD64 HXV.out j)
      have HSET := hid (fun (v : Nat) => HZ4.out.set j (.int .u64 (v : Int)))
      have HCH := hid (fun (v : Value) => HZ5.out.setCell g j v (.inl rfl))
      generalize zs.getD j 0 = q at *
      obtain ⟨x, hx⟩ : ∃ x, xs.getD j 0 = x := ⟨_, rfl⟩
      rw [hx] at l0 HXL
      have HXE := hid hx
      clear hx
      have hor := u64_or_nat q x HQL.out HXL.out
      have HOL := hid (or_lt_64 HQL.out HXL.out)
      go_wp2_with fail
      go_roundw
      case rel =>
        refine ⟨j + 1, by omega, by go_num, hid ⟨zs.set j (q ||| x), by rw [List.length_set]; exact HZ1.out, mem_set64 HZ2.out HOL.out, fun t => ?_, ?_, HCH.out _, by simpa [World.setCell] using HZ6.out⟩⟩
        · by_cases ht : t = j
          · subst ht
            rw [if_pos (by omega), HXE.out, ← HJ.out]
            simp [List.getD, show t < zs.length by rw [HZ1.out]; exact hlt]
          · have e : (zs.set j (q ||| x)).getD t 0 = zs.getD t 0 := by simp only [List.getD]; rw [List.getElem?_set_ne (fun h => ht h.symm)]
            rw [e, HZ3.out]
            by_cases h2 : t < j
            · rw [if_pos h2, if_pos (by omega)]
            · rw [if_neg h2, if_neg (by omega)]
        · rw [← u64s_set]
          exact HSET.out (q ||| x)
      case measure => simp [intOf]; omega
    · obtain rfl : j = n := by omega
      go_wp2_with fail
      go_end0
      refine ⟨rfl, zs, HZ1.out, HZ2.out, fun i => ?_, HZ4.out, HZ5.out, HZ6.out⟩
      simp only [bitOf]
      rw [HZ3.out]
      by_cases h : i / 64 < j
      · rw [if_pos h, Nat.testBit_or]
      · rw [if_neg h]
        have e : xs.getD (i / 64) 0 = 0 := by simp [List.getD, List.getElem?_eq_none (show xs.length ≤ i / 64 by rw [HXN.out]; omega)]
        rw [e, Nat.zero_testBit, Bool.or_false]
end Go.Proofs.YthonbfojpbfmgaaGreatDoor

/- Package kernel: the bitmap of the values for which a test holds (what both kinds have in common). -/
set_option linter.unusedVariables false
set_option linter.unusedSimpArgs false
set_option linter.unnecessarySimpa false
set_option maxRecDepth 100000
namespace Go.Proofs.YthonbfojpbfmgaaGreatDoor
open Go.RowKit

/-- a bitmap of n bits, by a function -/
def BitsOf (n : Nat) (F : Nat → Bool) (zs : List Nat) : Prop := zs.length = (n + 63) / 64 ∧ (∀ x ∈ zs, x < 18446744073709551616) ∧ ∀ i, bitOf zs i = (decide (i < n) && F i)
/-- what a list of hits answers -/
def HitAns (w w' : World) (e : Ending) (n : Nat) (F : Nat → Bool) : Prop :=
  ∃ v zs, e = .returned v ∧ BitsOf n F zs ∧ Rd w' v ((n + 63) / 64) 1 (u64s zs) ∧ Below w.heap.size w w'
/-- the bits below s, in words for n -/
def BitsTo (n s : Nat) (F : Nat → Bool) (zs : List Nat) : Prop := zs.length = (n + 63) / 64 ∧ (∀ x ∈ zs, x < 18446744073709551616) ∧ ∀ i, bitOf zs i = (decide (i < s) && F i)
theorem BitsTo.start (n : Nat) (F : Nat → Bool) : BitsTo n 0 F (List.replicate ((n + 63) / 64) 0) := by
  refine ⟨by simp, fun x hx => by rw [(List.mem_replicate.1 hx).2]; omega, fun i => ?_⟩
  have e : (List.replicate ((n + 63) / 64) 0).getD (i / 64) 0 = 0 := by
    simp only [List.getD]
    by_cases h : i / 64 < (n + 63) / 64
    · rw [List.getElem?_replicate, if_pos h]; rfl
    · rw [List.getElem?_replicate, if_neg h]; rfl
  unfold bitOf
  rw [e]; simp
theorem BitsTo.full {n : Nat} {F : Nat → Bool} {zs : List Nat} (h : BitsTo n n F zs) : BitsOf n F zs := h
theorem BitsTo.set {n s s' : Nat} {F : Nat → Bool} {ys zs : List Nat} (h : BitsTo n s F ys) (h1 : zs.length = (n + 63) / 64) (h2 : ∀ x ∈ zs, x < 18446744073709551616)
    (h3 : ∀ i, bitOf zs i = (bitOf ys i || (decide (s ≤ i) && decide (i < s')))) (hs : s ≤ s') (hF : ∀ i, s ≤ i → i < s' → F i = true) : BitsTo n s' F zs := by
  refine ⟨h1, h2, fun i => ?_⟩
  rw [h3, h.2.2]
  by_cases h4 : i < s
  · simp [h4, show i < s' by omega, show ¬ s ≤ i by omega]
  · by_cases h5 : i < s'
    · simp [h4, h5, show s ≤ i by omega, hF i (by omega) h5]
    · simp [h4, h5]
theorem BitsTo.skip {n s s' : Nat} {F : Nat → Bool} {ys : List Nat} (h : BitsTo n s F ys) (hs : s ≤ s') (hF : ∀ i, s ≤ i → i < s' → F i = false) : BitsTo n s' F ys := by
  refine ⟨h.1, h.2.1, fun i => ?_⟩
  rw [h.2.2]
  by_cases h4 : i < s
  · simp [h4, show i < s' by omega]
  · by_cases h5 : i < s'
    · simp [h4, h5, hF i (by omega) h5]
    · simp [h4, h5]
theorem setRange1_any (q m n j : Nat) (ys : List Nat) (w : World) (hr : Row w q 40 (u64s ys)) (hn : ys.length = (n + 63) / 64) (hm : (n + 63) / 64 = m) (hj : j < n) (hn2 : n ≤ 65536) (hy : ∀ x ∈ ys, x < 18446744073709551616) :
    Calls Tryz.prog 150 #[.slice (some ⟨q, 0, none⟩) m m, .int .i64 j, .int .i64 ((j : Int) + 1)] w fun e w' => e = .returned (.tuple #[]) ∧ WordsOf q m w w' (fun i => bitOf ys i || (decide (j ≤ i) && decide (i < j + 1))) := by
  have h := setRange_any q m m j (j + 1) ys w hr (by omega) (by omega) (by omega) (by omega) (Nat.le_refl _) hy
  simpa only [Int.natCast_add, Int.natCast_one] using h
/-- where run number t starts -/
def endB (ends : List Nat) (t : Nat) : Nat := if t = 0 then 0 else ends.getD (t - 1) 0
theorem endB_le {ends : List Nat} (h : ∀ a b, a < b → b < ends.length → ends.getD a 0 < ends.getD b 0) {t : Nat} (ht : t < ends.length) : endB ends t ≤ ends.getD t 0 := by
  unfold endB
  by_cases h0 : t = 0
  · rw [if_pos h0]; omega
  · rw [if_neg h0]; exact Nat.le_of_lt (h _ _ (by omega) ht)
theorem end_le_last {ends : List Nat} (h : ∀ a b, a < b → b < ends.length → ends.getD a 0 < ends.getD b 0) {t n : Nat} (ht : t < ends.length) (hn : ends.length = n) : ends.getD t 0 ≤ endB ends n := by
  unfold endB
  rw [if_neg (by omega)]
  by_cases h0 : t = n - 1
  · rw [h0]; exact Nat.le_refl _
  · exact Nat.le_of_lt (h _ _ (by omega) (by omega))
theorem nI_get (xs : List Nat) (k : Nat) (h : k < xs.length) : (nI xs).getD k 0 = (xs.getD k 0 : Nat) := by
  unfold nI
  simp [List.getD, List.getElem?_map, List.getElem?_eq_getElem h]
theorem firstGe_run {ends : List Nat} (h : ∀ a b, a < b → b < ends.length → ends.getD a 0 < ends.getD b 0) {t i : Nat} (ht : t < ends.length) (h1 : endB ends t ≤ i) (h2 : i < ends.getD t 0) : firstGe (nI ends) ((i : Int) + 1) = t := by
  refine firstGe_eq _ _ t (by rw [nI_length]; omega) (fun a ha => ?_) (fun _ => ?_)
  · rw [nI_get ends a (by omega)]
    unfold endB at h1
    rw [if_neg (by omega)] at h1
    by_cases h0 : a = t - 1
    · subst h0; omega
    · have := h a (t - 1) (by omega) (by omega); omega
  · rw [nI_get ends t ht]; omega
end Go.Proofs.YthonbfojpbfmgaaGreatDoor

/- Package kernel: a relation to a literal as one to a lane. -/
set_option linter.unusedVariables false
set_option linter.unusedSimpArgs false
set_option linter.unnecessarySimpa false
set_option maxRecDepth 100000
namespace Go.Proofs.YthonbfojpbfmgaaGreatDoor
open Go.RowKit

def besO (op : Int) : Int := if op = 1 then 3 else if op = 2 then 6 else if op = 4 then 3 else if op = 5 then 6 else op
def besC (op : Int) (c : Nat) : Nat := if op = 1 then 0 else if op = 2 then 0 else c
theorem besides_any (op : Int) (c : Nat) (w : World) (h : 1 ≤ op ∧ op ≤ 6) : Calls Tryz.prog 192 #[.int .i64 op, .int .u64 c] w fun e w' => e = .returned (.tuple #[.int .i64 (besO op), .int .u64 (besC op c)]) ∧ w' = w := by
  have ho : op = 1 ∨ op = 2 ∨ op = 3 ∨ op = 4 ∨ op = 5 ∨ op = 6 := by omega
  clear h
  rcases ho with rfl | rfl | rfl | rfl | rfl | rfl
  all_goals go_enter Tryz.func192, Tryz.ntmps192
  all_goals go_wp2
  all_goals go_ret2
  all_goals exact ⟨rfl, rfl⟩
def laO (e : Bool) (op : Int) : Int := if e = true then op else besO op
def laC (e : Bool) (op : Int) (c : Nat) : Nat := if e = true then c else besC op c
theorem laO_rel (e : Bool) (op : Int) (h : 1 ≤ op ∧ op ≤ 6) : isRel (laO e op) = true := by
  unfold isRel laO besO
  have ho : op = 1 ∨ op = 2 ∨ op = 3 ∨ op = 4 ∨ op = 5 ∨ op = 6 := by omega
  clear h
  rcases ho with rfl | rfl | rfl | rfl | rfl | rfl <;> cases e <;> decide
theorem laC_le (e : Bool) (op : Int) (c : Nat) : laC e op c ≤ c := by
  unfold laC besC
  split
  · exact Nat.le_refl _
  · split
    · omega
    · split <;> omega
/-- the lane's relation is the value's -/
theorem rel_lane (op : Int) (h : 1 ≤ op ∧ op ≤ 6) (L c : Nat) (e : Bool) (sg : Int) (h1 : sg < 0 ↔ L < c) (h2 : sg = 0 ↔ (e = true ∧ L = c)) : standsB (laO e op) L (laC e op c) = standsS op sg := by
  have ho : op = 1 ∨ op = 2 ∨ op = 3 ∨ op = 4 ∨ op = 5 ∨ op = 6 := by omega
  clear h
  unfold standsB standsS laO laC besO besC
  cases e
  · have h3 : sg ≠ 0 := fun hh => by have := h2.1 hh; exact absurd this.1 (by decide)
    clear h2
    rcases ho with rfl | rfl | rfl | rfl | rfl | rfl
    all_goals simp
    all_goals by_cases hs : sg < 0
    all_goals (have h4 := h1; simp only [hs, true_iff, false_iff] at h4)
    all_goals omega
  · simp only [true_and] at h2
    rcases ho with rfl | rfl | rfl | rfl | rfl | rfl
    all_goals simp
    all_goals by_cases hs : sg < 0
    all_goals by_cases hs0 : sg = 0
    all_goals (have h4 := h1; have h5 := h2; simp only [hs, hs0, true_iff, false_iff] at h4 h5)
    all_goals omega
end Go.Proofs.YthonbfojpbfmgaaGreatDoor

/- Package kernel: bitmaps that the lanes' comparison made. -/
set_option linter.unusedVariables false
set_option linter.unusedSimpArgs false
set_option linter.unnecessarySimpa false
set_option maxRecDepth 100000
namespace Go.Proofs.YthonbfojpbfmgaaGreatDoor
open Go.RowKit

def WordsT (tl : List Value) (g n : Nat) (w w' : World) (F : Nat → Bool) : Prop := ∃ zs : List Nat, zs.length = n ∧ (∀ x ∈ zs, x < 18446744073709551616) ∧ (∀ i, bitOf zs i = F i) ∧ Row w' g 40 (u64s zs ++ tl) ∧ Chg g g w w' ∧ w'.heap.size = w.heap.size
set_option maxHeartbeats 2000000 in
theorem intersectT_any (g n cap : Nat) (v : Value) (ys xs : List Nat) (tl : List Value) (w : World) (hr : Row w g 40 (u64s ys ++ tl)) (hn : ys.length = n) (hx : ∀ w', Chg g g w w' → Rd w' v n 1 (u64s xs)) (hxn : xs.length = n) (hn2 : n ≤ 1048576) (hnc : n ≤ cap) (hy : ∀ x ∈ ys, x < 18446744073709551616) (hxv : ∀ x ∈ xs, x < 18446744073709551616) :
    Calls Tryz.prog 153 #[.slice (some ⟨g, 0, none⟩) n cap, v] w fun e w' => e = .returned (.tuple #[]) ∧ WordsT tl g n w w' (fun i => bitOf ys i && bitOf xs i) := by
  have HR := hid hr; have HN := hid hn; have HY := hid hy; have HX := hid hx; have HXN := hid hxn; have HXV := hid hxv
  obtain ⟨A, ca, rfl, _, _, _⟩ := (hx w (Chg.refl _ _ _)).form
  clear hr hn hy hx hxn hxv
  go_enter Tryz.func153, Tryz.ntmps153
  go_wp2_with fail
  go_loopw [8] (fun i wr => ∃ j : Nat, j ≤ n ∧ i = .int .i64 j ∧ Hid (∃ zs : List Nat, zs.length = n ∧ (∀ x ∈ zs, x < 18446744073709551616) ∧ (∀ t, zs.getD t 0 = if t < j then ys.getD t 0 &&& xs.getD t 0 else ys.getD t 0) ∧ Row wr g 40 (u64s zs ++ tl) ∧ Chg g g w wr ∧ wr.heap.size = w.heap.size)) (fun i _ => n - (intOf i).toNat)
  case atStart => exact ⟨0, by omega, rfl, hid ⟨ys, HN.out, HY.out, fun t => by rw [if_neg (Nat.not_lt_zero t)], HR.out, Chg.refl _ _ _, rfl⟩⟩
  case round =>
    obtain ⟨j, hj, rfl, HZ⟩ := hrel
    obtain ⟨zs, hz1, hz2, hz3, hz4, hz5, hz6⟩ := HZ.out
    have HZ1 := hid hz1; have HZ2 := hid hz2; have HZ3 := hid hz3; have HZ4 := hid hz4; have HZ5 := hid hz5; have HZ6 := hid hz6
    clear hz1 hz2 hz3 hz4 hz5 hz6 HZ
    by_cases hlt : j < n
    · obtain ⟨b, o, rfl, hs⟩ := Rd.atU (HX.out wr HZ5.out) (by omega)
      have l0 := hs j (by rw [HXN.out]; exact hlt)
      clear hs
      have hcell : wr.cell? ⟨g, j, none⟩ = some (.int .u64 ((zs.getD j 0 : Nat) : Int)) := by rw [HZ4.out.cell, List.getElem?_append_left (by simp [u64s]; rw [HZ1.out]; exact hlt)]; exact u64s_get zs j (by rw [HZ1.out]; exact hlt)
      have hfr := HZ4.out.frozen j
      have HJ : Hid (zs.getD j 0 = ys.getD j 0) := hid (by rw [HZ3.out, if_neg (by omega)])
      have HQL := hid (getD64 HZ2.out j)
      have HXL := hid (getD64 HXV.out j)
      have HSET := hid (fun (v : Nat) => by have hh := HZ4.out.set j (.int .u64 (v : Int)); rw [List.set_append_left _ _ (by simp [u64s]; rw [HZ1.out]; exact hlt)] at hh; exact hh)
      have HCH := hid (fun (v : Value) => HZ5.out.setCell g j v (.inl rfl))
      generalize zs.getD j 0 = q at *
      obtain ⟨x, hx⟩ : ∃ x, xs.getD j 0 = x := ⟨_, rfl⟩
      rw [hx] at l0 HXL
      have HXE := hid hx
      clear hx
      have hor := u64_and_nat q x HQL.out HXL.out
      have HOL := hid (Nat.lt_of_le_of_lt (Nat.and_le_left (n := q) (m := x)) HQL.out)
      go_wp2_with fail
      go_roundw
      case rel =>
        refine ⟨j + 1, by omega, by go_num, hid ⟨zs.set j (q &&& x), by rw [List.length_set]; exact HZ1.out, mem_set64 HZ2.out HOL.out, fun t => ?_, ?_, HCH.out _, by simpa [World.setCell] using HZ6.out⟩⟩
        · by_cases ht : t = j
          · subst ht
            rw [if_pos (by omega), HXE.out, ← HJ.out]
            simp [List.getD, show t < zs.length by rw [HZ1.out]; exact hlt]
          · have e : (zs.set j (q &&& x)).getD t 0 = zs.getD t 0 := by simp only [List.getD]; rw [List.getElem?_set_ne (fun h => ht h.symm)]
            rw [e, HZ3.out]
            by_cases h2 : t < j
            · rw [if_pos h2, if_pos (by omega)]
            · rw [if_neg h2, if_neg (by omega)]
        · rw [← u64s_set]
          exact HSET.out (q &&& x)
      case measure => simp [intOf]; omega
    · obtain rfl : j = n := by omega
      go_wp2_with fail
      go_end0
      refine ⟨rfl, zs, HZ1.out, HZ2.out, fun i => ?_, HZ4.out, HZ5.out, HZ6.out⟩
      simp only [bitOf]
      rw [HZ3.out]
      by_cases h : i / 64 < j
      · rw [if_pos h, Nat.testBit_and]
      · rw [if_neg h]
        have e : ys.getD (i / 64) 0 = 0 := by simp [List.getD, List.getElem?_eq_none (show ys.length ≤ i / 64 by rw [HN.out]; omega)]
        rw [e, Nat.zero_testBit, Bool.false_and]

theorem owns_tail {w : World} {B n : Nat} {e : TypeId} {v : Value} {cs : List Value} (h : w.ownsRow B e 1 v n cs) : (v = .slice none 0 0 ∧ n = 0 ∧ cs = []) ∨ ∃ g cap tl, v = .slice (some ⟨g, 0, none⟩) n cap ∧ B ≤ g ∧ Row w g e (cs ++ tl) ∧ n ≤ cap ∧ cap ≤ maxLen ∧ cs.length = n := by
  rcases h.2 with ⟨h1, h2⟩ | ⟨g, cap, cur, h1, h2, h3, h4, h5, h6, h7⟩
  · subst h2
    exact .inl ⟨h1, rfl, List.eq_nil_of_length_eq_zero (by have := h.1; omega)⟩
  · refine .inr ⟨g, cap, cur.toList.drop n, h1, h2, ?_, h4, h5, by have := h.1; omega⟩
    unfold Row
    rw [h3]
    have e1 : cs ++ cur.toList.drop n = cur.toList := by
      rw [← h7, Nat.mul_one]; exact List.take_append_drop n cur.toList
    rw [e1]
theorem intersectN_any (v : Value) (c : Nat) (A : Option Addr) (w : World) : Calls Tryz.prog 153 #[.slice none 0 0, .slice A 0 c] w fun e w' => e = .returned (.tuple #[]) ∧ w' = w := by
  go_enter Tryz.func153, Tryz.ntmps153
  go_wp2_with fail
  go_loopw [8] (fun i wr => i = .int .i64 0 ∧ wr = w) (fun i _ => 0)
  case atStart => exact ⟨rfl, rfl⟩
  case round =>
    obtain ⟨rfl, rfl⟩ := hrel
    go_wp2_with fail
    go_end0
    exact ⟨rfl, rfl⟩
theorem intersectO_any (B C n : Nat) (u v : Value) (ys xs : List Nat) (w : World) (hu : w.ownsRow B 40 1 u n (u64s ys)) (hv : w.ownsRow C 40 1 v n (u64s xs)) (hB : B ≤ w.heap.size) (hsep : ∀ k, u.ownBlock = some k → k < C) (hn2 : n ≤ 1048576) (hy : ∀ x ∈ ys, x < 18446744073709551616) (hxv : ∀ x ∈ xs, x < 18446744073709551616) :
    Calls Tryz.prog 153 #[u, v] w fun e w' => e = .returned (.tuple #[]) ∧ Below B w w' ∧ ∃ zs : List Nat, zs.length = n ∧ (∀ x ∈ zs, x < 18446744073709551616) ∧ (∀ i, bitOf zs i = (bitOf ys i && bitOf xs i)) ∧ Rd w' u n 1 (u64s zs) := by
  have hxn : xs.length = n := by have := hv.1; simpa [u64s] using this
  have hyn : ys.length = n := by have := hu.1; simpa [u64s] using this
  rcases owns_tail hu with ⟨rfl, rfl, h3⟩ | ⟨g, cap, tl, rfl, h2, h3, h4, h5, h6⟩
  · obtain ⟨A, c, rfl, _⟩ := owns_form hv
    refine (intersectN_any (.slice none 0 0) c A w).mono ?_
    rintro e w' ⟨rfl, rfl⟩
    obtain rfl : ys = [] := List.eq_nil_of_length_eq_zero hyn
    obtain rfl : xs = [] := List.eq_nil_of_length_eq_zero hxn
    exact ⟨rfl, Below.refl _ _, [], rfl, by simp, fun i => by simp [bitOf], owns_rd hu⟩
  · have hgC := hsep g rfl
    refine (intersectT_any g n cap v ys xs tl w h3 hyn (fun w' hc => owns_rd (owns_chg hv hc hgC hgC)) hxn hn2 h4 hy hxv).mono ?_
    rintro e w' ⟨rfl, zs, hz1, hz2, hz3, hz4, hz5, hz6⟩
    refine ⟨rfl, hz5.below (Below.refl _ _) hB h2 h2, zs, hz1, hz2, hz3, ?_⟩
    have hs := hz4.seg 0 n
    refine ⟨by simp [u64s, hz1], .inr ⟨g, 0, cap, rfl, h4, h5, ?_⟩⟩
    have e1 : ((u64s zs ++ tl).drop 0).take n = u64s zs := by
      rw [List.drop_zero]
      exact List.take_left' (by simp [u64s, hz1])
    rw [e1] at hs
    exact hs
theorem nWords1k (n : Nat) : L.nWords 1 n = (n + 63) / 64 := by unfold L.nWords; simp
theorem cmpR_bits (wd count : Nat) (op : Int) (lanes : List Nat) (c : Nat) (h : cmpOk wd count op lanes = true) : BitsOf count (cmpF wd op lanes c) (cmpR wd count op lanes c) := by
  unfold cmpR
  rw [if_pos h]
  have hb := bmL_isBm ((List.range (count : Int).toNat).map (cmpF (wd : Int).toNat op lanes c))
  obtain ⟨h1, h2, h3⟩ := hb
  simp only [List.length_map, List.length_range, Int.toNat_natCast] at h1 h2 h3 ⊢
  rw [nWords1k] at h1
  refine ⟨h1, h2, fun i => ?_⟩
  by_cases hi : i < 64 * (bmL ((List.range count).map (cmpF wd op lanes c))).length
  · rw [h3 i hi]
    by_cases hn : i < count
    · simp [hn, List.getD]
    · simp [hn]
  · rw [bitOf_out _ _ (by omega)]
    simp [show ¬ i < count by omega]
end Go.Proofs.YthonbfojpbfmgaaGreatDoor
