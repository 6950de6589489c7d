/- The laws' own helpers over lists of ints: layInts, sameInts. -/
import Derived.Test.YthonbfojpbfmgaaGreatDoorLawfoldsplitB1
import Derived.Test.YthonbfojpbfmgaaGreatDoorLawfoldsplitB3
import Derived.Deep.RegionWith
import Derived.Deep.CutBlock
import Derived.Deep.RegionHeld3
import Derived.Deep.DeepMust
set_option linter.unusedVariables false
set_option linter.unusedSimpArgs false
set_option linter.unnecessarySimpa false
set_option maxRecDepth 20000
namespace Go.Proofs.YthonbfojpbfmgaaGreatDoor
open Go.RowKit

def i64s (xs : List Int) : List Value := xs.map (Value.int .i64)
theorem i64s_length (xs : List Int) : (i64s xs).length = xs.length := by simp [i64s]
theorem i64s_append (a b : List Int) : i64s (a ++ b) = i64s a ++ i64s b := by simp [i64s]
theorem i64s_get (xs : List Int) (i : Nat) (h : i < xs.length) : (i64s xs)[i]? = some (.int .i64 (xs.getD i 0)) := by
  simp [i64s, List.getElem?_eq_getElem h, List.getD]
theorem Seg.int {w : World} {b o : Nat} {xs : List Int} (h : Seg w b o (i64s xs)) (i : Nat) (hi : i < xs.length) : w.cell? ⟨b, o + i, none⟩ = some (.int .i64 (xs.getD i 0)) :=
  h i _ (i64s_get xs i hi)
theorem Tryz.infoI64 : (Tryz.prog.info? 3).map (fun i => (i.zero, i.size, i.bytes)) = some (some (.int .i64 0), 1, 8) := by kernel_rfl

end Go.Proofs.YthonbfojpbfmgaaGreatDoor

/- The plain answer's Rank; bitvec's setPlaces and Indexes. -/
set_option linter.unusedVariables false
set_option linter.unusedSimpArgs false
set_option linter.unnecessarySimpa false
set_option maxRecDepth 20000
namespace Go.Proofs.YthonbfojpbfmgaaGreatDoor
open Go.RowKit

theorem idxN_gap (xs : List Nat) (t : Nat) : ∀ d, (∀ p, t ≤ p → p < t + d → bitOf xs p = false) → idxN xs (t + d) = idxN xs t
  | 0, _ => rfl
  | d + 1, h => by
    rw [← Nat.add_assoc, idxN_snoc, h (t + d) (by omega) (by omega), idxN_gap xs t d (fun p h1 h2 => h p h1 (by omega))]
    simp
theorem ctz_below (x : Nat) (h0 : x ≠ 0) (h : x < 18446744073709551616) (p : Nat) (hp : p < Lib.ctz 64 x) : x.testBit p = false := by
  obtain ⟨m, hm, hk⟩ := ctz_form x h0 h
  generalize Lib.ctz 64 x = t at *
  have hlt : 2 ^ t < 2 ^ (t + 1) := Nat.pow_lt_pow_right (by omega) (by omega)
  rw [hm, Nat.add_comm, Nat.testBit_two_pow_mul_add _ hlt, Nat.testBit_two_pow, if_pos (by omega)]
  simp; omega
/-- the bits of the word k that are still to come -/
def Rest (xs : List Nat) (k t y : Nat) : Prop := t ≤ 64 ∧ y < 18446744073709551616 ∧ ∀ p, p < 64 → y.testBit p = (bitOf xs (64 * k + p) && decide (t ≤ p))
theorem rest_zero {xs : List Nat} {k t : Nat} (h : Rest xs k t 0) : idxN xs (64 * (k + 1)) = idxN xs (64 * k + t) := by
  rw [show 64 * (k + 1) = 64 * k + t + (64 - t) from by have := h.1; omega]
  refine idxN_gap xs _ _ (fun p h1 h2 => ?_)
  have h3 := h.1
  have := h.2.2 (p - 64 * k) (by omega)
  rw [Nat.zero_testBit, show 64 * k + (p - 64 * k) = p from by omega] at this
  simpa [show t ≤ p - 64 * k from by omega] using this.symm
theorem rest_next {xs : List Nat} {k t y : Nat} (h : Rest xs k t y) (h0 : y ≠ 0) : idxN xs (64 * k + (Lib.ctz 64 y + 1)) = idxN xs (64 * k + t) ++ [64 * k + Lib.ctz 64 y] ∧ Rest xs k (Lib.ctz 64 y + 1) (y &&& (y - 1)) ∧ Lib.ctz 64 y < 64 ∧ (y &&& (y - 1)) < y := by
  obtain ⟨ht, hy, hb⟩ := h
  have hk : Lib.ctz 64 y < 64 := (Lib.lowest_bit 64 y h0 hy).2
  have hcl := clear_lowest y h0 hy
  have hbel := ctz_below y h0 hy
  have hset : bitOf xs (64 * k + Lib.ctz 64 y) = true ∧ t ≤ Lib.ctz 64 y := by
    have := hb (Lib.ctz 64 y) hk
    rw [(hcl 0).2.1] at this
    simpa using this.symm
  refine ⟨?_, ⟨by omega, by have := (hcl 0).2.2; omega, fun p hp => ?_⟩, hk, (hcl 0).2.2⟩
  · rw [← Nat.add_assoc, idxN_snoc, hset.1, if_pos rfl]
    congr 1
    have e : 64 * k + Lib.ctz 64 y = 64 * k + t + (Lib.ctz 64 y - t) := by omega
    rw [e]
    refine idxN_gap xs _ _ (fun p h1 h2 => ?_)
    have h3 := hbel (p - 64 * k) (by omega)
    rw [hb _ (by omega), show 64 * k + (p - 64 * k) = p from by omega] at h3
    simpa [show t ≤ p - 64 * k from by omega] using h3
  · rw [(hcl p).1, hb p hp]
    by_cases h1 : p = Lib.ctz 64 y
    · simp [h1]
    · by_cases h2 : p < Lib.ctz 64 y
      · have h3 := hbel p h2
        rw [hb p hp] at h3
        rw [h3]; simp [show ¬ Lib.ctz 64 y + 1 ≤ p from by omega]
      · simp [h1, show t ≤ p from by omega, show Lib.ctz 64 y + 1 ≤ p from by omega]
theorem rest_first (xs : List Nat) (k : Nat) (hv : ∀ x ∈ xs, x < 18446744073709551616) (hk : k < xs.length) : Rest xs k 0 (xs.getD k 0) := by
  refine ⟨by omega, hv _ (by simp [List.getD, List.getElem?_eq_getElem hk]), fun p hp => ?_⟩
  unfold bitOf
  rw [show (64 * k + p) / 64 = k from by omega, show (64 * k + p) % 64 = p from by omega]
  simp
end Go.Proofs.YthonbfojpbfmgaaGreatDoor

/- bitvec's setPlaces and Indexes. -/
set_option linter.unusedVariables false
set_option linter.unusedSimpArgs false
set_option linter.unnecessarySimpa false
set_option maxRecDepth 20000
namespace Go.Proofs.YthonbfojpbfmgaaGreatDoor
open Go.RowKit

end Go.Proofs.YthonbfojpbfmgaaGreatDoor

/- bitvec's Dense and the plain answer's. -/
set_option linter.unusedVariables false
set_option linter.unusedSimpArgs false
set_option linter.unnecessarySimpa false
set_option maxRecDepth 20000
namespace Go.Proofs.YthonbfojpbfmgaaGreatDoor
open Go.RowKit

/-- from least on, strictly ascending, below n -/
def ascB (n : Int) : Int → List Int → Bool
  | _, [] => true
  | least, p :: ps => decide (least ≤ p) && decide (p < n) && ascB n (p + 1) ps
def denseOk (n : Int) (ps : List Int) : Bool := decide (0 ≤ n ∧ n ≤ 65536) && ascB n 0 ps
def denseR (n : Int) (ps : List Int) : List Nat := if denseOk n ps = true then bmL ((List.range n.toNat).map fun i : Nat => decide ((i : Int) ∈ ps)) else []
def DInv (m : Nat) (ps : List Int) (k : Nat) (least : Int) (f : Nat → Bool) : Prop :=
  ascB m 0 ps = ascB m least (ps.drop k) ∧ ∀ j : Nat, f j = decide ((j : Int) ∈ ps.take k)
theorem dinv_start (m : Nat) (ps : List Int) (f : Nat → Bool) (h : ∀ j, f j = false) : DInv m ps 0 0 f := ⟨by simp, fun j => by simp [h j]⟩
theorem drop_at (ps : List Int) (k : Nat) (hk : k < ps.length) : ps.drop k = ps.getD k 0 :: ps.drop (k + 1) := by
  rw [List.drop_eq_getElem_cons hk]; simp [List.getD, List.getElem?_eq_getElem hk]
theorem dinv_fail {m k : Nat} {ps : List Int} {least p : Int} {f : Nat → Bool} (hk : k < ps.length) (hp : ps.getD k 0 = p) (h : DInv m ps k least f) (hb : p < least ∨ (m : Int) ≤ p) : ascB m 0 ps = false := by
  rw [h.1, drop_at ps k hk, hp, ascB]
  rcases hb with h1 | h1
  · simp [show ¬ least ≤ p from by omega]
  · simp [show ¬ p < (m : Int) from by omega]
theorem dinv_step {m k q : Nat} {ps : List Int} {least : Int} {f f' : Nat → Bool} (hk : k < ps.length) (hp : ps.getD k 0 = (q : Int)) (h : DInv m ps k least f) (h1 : least ≤ q) (h2 : q < m) (hf : ∀ j, f' j = (f j || decide (j = q))) : DInv m ps (k + 1) ((q : Int) + 1) f' := by
  refine ⟨?_, fun j => ?_⟩
  · rw [h.1, drop_at ps k hk, hp, ascB]
    simp [h1, show (q : Int) < (m : Int) from by omega]
  · have e : ps[k] = (q : Int) := by rw [← hp]; simp [List.getD, List.getElem?_eq_getElem hk]
    rw [hf, h.2, List.take_succ_eq_append_getElem hk, e]
    by_cases hj : j = q
    · simp [hj]
    · simp [hj, show ¬ (j : Int) = (q : Int) from by omega]
theorem dinv_end {m : Nat} {ps : List Int} {least : Int} {f : Nat → Bool} (h : DInv m ps ps.length least f) : ascB m 0 ps = true ∧ ∀ j : Nat, f j = decide ((j : Int) ∈ ps) := by
  refine ⟨by rw [h.1, List.drop_length, ascB], fun j => by rw [h.2, List.take_length]⟩
theorem asc_lt {n : Int} : ∀ {least : Int} {ps : List Int}, ascB n least ps = true → ∀ p ∈ ps, least ≤ p ∧ p < n
  | _, [], _, p, hp => by cases hp
  | least, q :: ps, h, p, hp => by
    simp only [ascB, Bool.and_eq_true, decide_eq_true_eq] at h
    rcases List.mem_cons.1 hp with rfl | hp
    · exact ⟨h.1.1, h.1.2⟩
    · have := asc_lt h.2 p hp
      omega
theorem dense_bm (m : Nat) (ps : List Int) (ys : List Nat) (hlen : ys.length = L.nWords 1 m) (hv : ∀ x ∈ ys, x < 18446744073709551616) (hok : ascB m 0 ps = true) (hb : ∀ j : Nat, bitOf ys j = decide ((j : Int) ∈ ps)) :
    ys = bmL ((List.range m).map fun i : Nat => decide ((i : Int) ∈ ps)) := by
  obtain ⟨h1, h2, h3⟩ := bmL_isBm ((List.range m).map fun i : Nat => decide ((i : Int) ∈ ps))
  simp only [List.length_map, List.length_range] at h1 h3
  refine bm_ext (hlen.trans h1.symm) hv h2 (fun i hi => ?_)
  rw [hb, h3 i (by rw [h1, ← hlen]; exact hi)]
  by_cases hm : i < m
  · simp [hm, List.getD]
  · have : ¬ (i : Int) ∈ ps := fun hin => by have := (asc_lt hok _ hin).2; omega
    simp [hm, this]
theorem bitOf_zeros (k j : Nat) : bitOf (List.replicate k 0) j = false := by
  unfold bitOf
  have : (List.replicate k 0).getD (j / 64) 0 = 0 := by
    simp only [List.getD, List.getElem?_replicate]; split <;> rfl
  rw [this, Nat.zero_testBit]

set_option maxHeartbeats 2000000 in
theorem Dense_any (v : Value) (ps : List Int) (n : Int) (w : World) (hx : Rd w v ps.length 1 (i64s ps)) (hl : ps.length ≤ maxLen) :
    Calls Tryz.prog 173 #[v, .int .i64 n] w fun e w' => ∃ r, e = .returned (.tuple #[r, .bool (denseOk n ps)]) ∧ w'.ownsRow w.heap.size 40 1 r (denseR n ps).length (u64s (denseR n ps)) ∧ Below w.heap.size w w' := by
  unfold maxLen at hl
  obtain ⟨A, ca, rfl, hlc, hcm, hA⟩ := hx.form
  clear hx hlc hcm
  obtain ⟨ok, hok⟩ : ∃ ok, denseOk n ps = ok := ⟨_, rfl⟩
  obtain ⟨R, hR⟩ : ∃ R, denseR n ps = R := ⟨_, rfl⟩
  rw [hok, hR]
  have HOK := hid hok; have HR := hid hR
  clear hok hR
  have HNO : Hid (denseOk n ps = false → R = [] ∧ ok = false) := hid (fun h => ⟨by rw [← HR.out, denseR, if_neg (by rw [h]; simp)], by rw [← HOK.out, h]⟩)
  go_enter Tryz.func173, Tryz.ntmps173
  by_cases h0 : n < 0
  · go_wp2
    go_ret2
    have h := HNO.out (by unfold denseOk; simp; omega)
    exact ⟨.slice none 0 0, by rw [h.2]; rfl, by rw [h.1]; exact World.ownsRow_nil _ _ _ _, Below.refl _ _⟩
  by_cases h1 : 65536 < n
  · go_wp2
    go_ret2
    have h := HNO.out (by unfold denseOk; simp; omega)
    exact ⟨.slice none 0 0, by rw [h.2]; rfl, by rw [h.1]; exact World.ownsRow_nil _ _ _ _, Below.refl _ _⟩
  obtain ⟨m, rfl⟩ := Int.eq_ofNat_of_zero_le (show 0 ≤ n by omega)
  have hm : m ≤ 65536 := by omega
  have HASC : Hid (ascB m 0 ps = false → R = [] ∧ ok = false) := hid (fun h => HNO.out (by unfold denseOk; simp [h]))
  have HYES : Hid (ascB m 0 ps = true → R = bmL ((List.range m).map fun i : Nat => decide ((i : Int) ∈ ps)) ∧ ok = true) := hid (fun h => by
    have h2 : denseOk (m : Int) ps = true := by unfold denseOk; simp [h]; omega
    exact ⟨by rw [← HR.out, denseR, if_pos h2, Int.toNat_natCast], by rw [← HOK.out, h2]⟩)
  have hml := L.nWords_le (w := 1) (n := m) (by omega)
  have HNW := hid (nWords1_le m)
  have HBW := hid (bitWords_any m w hm)
  obtain ⟨q, hq⟩ : ∃ q, L.nWords 1 m = q := ⟨_, rfl⟩
  rw [hq] at hml HNW HBW
  have HQ := hid hq
  clear hq HNO
  go_wp2_with (go_at_call 91; refine HBW.out.mono ?_; rintro e w' ⟨rfl, hw⟩; replace hw := hw.symm; subst hw)
  refine upon_make 40 (.int .u64 0) 8 Tryz.underlying28 Tryz.info45 rfl q (by omega) (by omega) (by omega) (by unfold maxLen; omega) ?_
  intro w1 hrow hb1 hsz1
  have HZ1 := hid hsz1
  have hrow2 : Row w1 w.heap.size 40 (u64s (List.replicate q 0)) := by
    have e : u64s (List.replicate q 0) = List.replicate q (.int .u64 0) := by simp [u64s, u64]
    rw [e]; exact hrow
  have HROW := hid hrow2
  clear hsz1 hrow hrow2
  go_wp2
  go_loopw [7, 21] (fun l i wr => ∃ (k : Nat) (least : Int) (ys : List Nat), k ≤ ps.length ∧ i = .int .i64 k ∧ l = .int .i64 least ∧ 0 ≤ least ∧ least ≤ m ∧ Hid (DInv m ps k least (bitOf ys)) ∧ Hid (ys.length = q ∧ ∀ x ∈ ys, x < 18446744073709551616) ∧ Hid (Row wr w.heap.size 40 (u64s ys)) ∧ Below w.heap.size w wr ∧ Hid (wr.heap.size = w.heap.size + 1)) (fun _ i _ => ps.length - (intOf i).toNat)
  case atStart => exact ⟨0, 0, List.replicate q 0, by omega, rfl, rfl, by omega, by omega, hid (dinv_start _ _ _ (bitOf_zeros q)), hid ⟨by simp, by intro x hx; rw [List.eq_of_mem_replicate hx]; omega⟩, HROW, hb1, HZ1⟩
  case round =>
    obtain ⟨k, least, ys, hk, rfl, rfl, hl0, hlm, HD, HYS, HRW, hb, HZ⟩ := hrel
    clear HROW hb1 HZ1
    by_cases hlt : k < ps.length
    · obtain ⟨b, o, rfl, hs⟩ := hA (by omega)
      have c1 := (hs.mono (hb.mono (Nat.le_refl _))).int k hlt
      obtain ⟨p, hp⟩ : ∃ p, ps.getD k 0 = p := ⟨_, rfl⟩
      rw [hp] at c1
      have HP := hid hp
      clear hs hA hp
      by_cases hb0 : p < least
      · go_wp2
        go_ret2
        have h := HASC.out (dinv_fail hlt HP.out HD.out (.inl hb0))
        exact ⟨.slice none 0 0, by rw [h.2]; rfl, by rw [h.1]; exact World.ownsRow_nil _ _ _ _, hb⟩
      by_cases hbm : (m : Int) ≤ p
      · go_wp2
        go_ret2
        have h := HASC.out (dinv_fail hlt HP.out HD.out (.inr hbm))
        exact ⟨.slice none 0 0, by rw [h.2]; rfl, by rw [h.1]; exact World.ownsRow_nil _ _ _ _, hb⟩
      obtain ⟨j, rfl⟩ := Int.eq_ofNat_of_zero_le (show 0 ≤ p by omega)
      have HSB := hid (setBit_any w.heap.size q q j ys wr HRW.out HYS.out.1 (Nat.le_refl _) (by have := HNW.out; omega) HYS.out.2 (by omega))
      have HBS := hid (bitOf_set ys j (by have := HNW.out; have := HYS.out.1; omega))
      have HS6 := hid (set_lt64 ys HYS.out.2 j)
      go_wp2_with (go_at_call 99; refine HSB.out.mono ?_; rintro e w2 ⟨rfl, hr2, hb2, hz2, -⟩; have HR2 := hid hr2; have HZ2 := hid hz2; clear hr2 hz2)
      go_roundw
      case rel =>
        refine ⟨k + 1, (j : Int) + 1, _, by omega, by go_num, rfl, by omega, by omega, hid (dinv_step hlt HP.out HD.out (by omega) (by omega) HBS.out), hid ⟨by rw [List.length_set]; exact HYS.out.1, HS6.out⟩, HR2, hb.trans hb2, hid (by rw [HZ2.out]; exact HZ.out)⟩
      case measure => simp [intOf]; omega
    · go_wp2
      go_ret2
      obtain rfl : k = ps.length := by omega
      have he := dinv_end HD.out
      have h := HYES.out he.1
      have hbm := dense_bm m ps ys (by rw [HYS.out.1, HQ.out]) HYS.out.2 he.1 he.2
      refine ⟨_, by rw [h.2]; rfl, ?_, hb⟩
      rw [h.1, ← hbm, HYS.out.1]
      exact HRW.out.owns (Nat.le_refl _) (by rw [u64s_length, HYS.out.1]) (by unfold maxLen; omega)
end Go.Proofs.YthonbfojpbfmgaaGreatDoor

/- Package wire: bytes, numbers, the reader that hands them out. -/
set_option maxRecDepth 512
set_option linter.unusedVariables false
set_option linter.unusedSimpArgs false
set_option linter.unnecessarySimpa false
namespace Go.Proofs.YthonbfojpbfmgaaGreatDoor
open Go.RowKit

def u8 (n : Nat) : Value := .int .u8 (n : Int)
def u8s (xs : List Nat) : List Value := xs.map u8
theorem u8s_length (xs : List Nat) : (u8s xs).length = xs.length := by simp [u8s]
theorem u8s_get (xs : List Nat) (i : Nat) (h : i < xs.length) : (u8s xs)[i]? = some (.int .u8 ((xs.getD i 0 : Nat) : Int)) := by
  simp [u8s, u8, List.getElem?_eq_getElem h, List.getD]
theorem u8s_append (xs ys : List Nat) : u8s (xs ++ ys) = u8s xs ++ u8s ys := by simp [u8s]
theorem oneCell_u8s (xs : List Nat) : ∀ u ∈ u8s xs, u.oneCell' = true := by
  intro u hu; simp only [u8s, List.mem_map] at hu; obtain ⟨n, _, rfl⟩ := hu; rfl
theorem Seg.byte {w : World} {b o : Nat} {xs : List Nat} (h : Seg w b o (u8s xs)) (i : Nat) (hi : i < xs.length) : w.cell? ⟨b, o + i, none⟩ = some (.int .u8 ((xs.getD i 0 : Nat) : Int)) :=
  h i _ (u8s_get xs i hi)

/-- Every block but a and b stands as it did. -/
structure Chg (a b : Nat) (w w' : World) : Prop where
  os : w'.os = w.os
  tape : w'.tape = w.tape
  output : w'.output = w.output
  size : w.heap.size ≤ w'.heap.size
  block : ∀ k, k < w.heap.size → k ≠ a → k ≠ b → w'.heap[k]? = w.heap[k]?
theorem Chg.refl (a b : Nat) (w : World) : Chg a b w w := ⟨rfl, rfl, rfl, Nat.le_refl _, fun _ _ _ _ => rfl⟩
theorem Chg.trans {a b : Nat} {x y z : World} (h : Chg a b x y) (k : Chg a b y z) : Chg a b x z :=
  ⟨k.os.trans h.os, k.tape.trans h.tape, k.output.trans h.output, Nat.le_trans h.size k.size, fun i hi h1 h2 => (k.block i (Nat.lt_of_lt_of_le hi h.size) h1 h2).trans (h.block i hi h1 h2)⟩
theorem Chg.of_below {a b : Nat} {w w' : World} (h : Below w.heap.size w w') : Chg a b w w' := ⟨h.os, h.tape, h.output, h.size, fun k hk _ _ => h.block k hk⟩
theorem Chg.drewN {a b : Nat} {w w' : World} (h : Chg a b w w') (n : Nat) : Chg a b w (w'.drewN n) := h.trans (Chg.of_below (bdrew (brefl w') n))
theorem Chg.setCell {a b : Nat} {w w' : World} (h : Chg a b w w') (g o : Nat) (v : Value) (hg : g = a ∨ g = b) : Chg a b w (w'.setCell ⟨g, o, none⟩ v) :=
  ⟨by rw [← h.os]; rfl, by rw [← h.tape]; rfl, by rw [← h.output]; rfl, by simpa [World.setCell] using h.size, fun k hk h1 h2 => by
    rw [heap_setCell_other w' ⟨g, o, none⟩ k v (by rcases hg with rfl | rfl <;> simpa)]; exact h.block k hk h1 h2⟩
theorem Chg.wide {a b : Nat} {w w' : World} (h : Chg a a w w') : Chg a b w w' := ⟨h.os, h.tape, h.output, h.size, fun k hk h1 _ => h.block k hk h1 h1⟩
theorem Chg.wide' {a b : Nat} {w w' : World} (h : Chg b b w w') : Chg a b w w' := ⟨h.os, h.tape, h.output, h.size, fun k hk _ h1 => h.block k hk h1 h1⟩
theorem Chg.below {a b B : Nat} {w0 w w' : World} (h : Chg a b w w') (h0 : Below B w0 w) (hB : B ≤ w.heap.size) (ha : B ≤ a) (hb : B ≤ b) : Below B w0 w' :=
  h0.trans ⟨h.os, h.tape, h.output, h.size, fun k hk => h.block k (by omega) (by omega) (by omega)⟩
theorem Chg.then_below {a b p : Nat} {x y z : World} (h : Chg a b x y) (k : Below p y z) (hp : x.heap.size ≤ p) : Chg a b x z :=
  ⟨k.os.trans h.os, k.tape.trans h.tape, k.output.trans h.output, Nat.le_trans h.size k.size, fun i hi h1 h2 => (k.block i (Nat.lt_of_lt_of_le hi hp)).trans (h.block i hi h1 h2)⟩
theorem Chg.row {a b : Nat} {w w' : World} (h : Chg a b w w') {k : Nat} {e : TypeId} {cs : List Value} (hr : Row w k e cs) (h1 : k ≠ a) (h2 : k ≠ b) : Row w' k e cs := by
  unfold Row; rw [h.block k hr.lt h1 h2]; exact hr
theorem Chg.cell {a b : Nat} {w w' : World} (h : Chg a b w w') (k o : Nat) (hk : k < w.heap.size) (h1 : k ≠ a) (h2 : k ≠ b) : w'.cell? ⟨k, o, none⟩ = w.cell? ⟨k, o, none⟩ :=
  World.cell?_of_block (w := w) (h.block k hk h1 h2)
theorem Row.drewN {w : World} {g : Nat} {e : TypeId} {cs : List Value} (h : Row w g e cs) (n : Nat) : Row (w.drewN n) g e cs := h.mono (bdrew (brefl w) n)

set_option maxHeartbeats 400000 in
/-- bytes as one number, the lowest first -/
theorem number_any (v : Value) (xs : List Nat) (w : World) (hx : Rd w v xs.length 1 (u8s xs)) (hl : xs.length ≤ 8) (hv : ∀ x ∈ xs, x < 256) :
    Calls Tryz.prog 137 #[v] w fun e w' => e = .returned (.int .u64 (L.wordOf 8 xs : Nat)) ∧ w' = w := by
  obtain ⟨A, ca, rfl, hlc, hcm, hA⟩ := hx.form
  clear hx
  go_enter Tryz.func137, Tryz.ntmps137
  go_wp2
  go_loop [3, 8] (fun u i => ∃ j : Nat, j ≤ xs.length ∧ i = .int .i64 j ∧ u = .int .u64 (L.wordOf 8 (xs.take j) : Nat)) (fun _ i => xs.length - (intOf i).toNat)
  case atStart => exact ⟨0, by omega, rfl, by simp [L.wordOf]⟩
  case round =>
    obtain ⟨j, hj, rfl, rfl⟩ := hrel
    have hlt64 : L.wordOf 8 (xs.take j) < 2 ^ (8 * j) := by
      have := L.wordOf_lt 8 (xs.take j) fun x hx => hv x (List.mem_of_mem_take hx)
      rwa [List.length_take, Nat.min_eq_left hj] at this
    by_cases hlt : j < xs.length
    · obtain ⟨b, o, rfl, hs⟩ := hA (by omega)
      have c1 := hs.byte j hlt
      have hvj : xs.getD j 0 < 2 ^ 8 := hv _ (by simp [List.getD, List.getElem?_eq_getElem hlt])
      have hsn : L.wordOf 8 (xs.take (j + 1)) = L.wordOf 8 (xs.take j) + xs.getD j 0 * 2 ^ (8 * j) := by
        rw [List.take_succ_eq_append_getElem hlt, L.wordOf_snoc, List.length_take, Nat.min_eq_left hj]
        simp [List.getD, List.getElem?_eq_getElem hlt]
      have HO := hid (or_lane (L.wordOf 8 (xs.take j)) (xs.getD j 0) 8 j hlt64 hvj (by omega))
      rw [← hsn] at HO
      obtain ⟨q, hq⟩ : ∃ q, 8 * j = q := ⟨_, rfl⟩
      have hq' : (8 : Int) * (j : Int) = (q : Int) := by rw [← hq]; simp
      have hq64 : q ≤ 64 := by omega
      rw [Nat.mul_comm j 8, hq] at HO
      have hvj' : xs.getD j 0 < 256 := hvj
      clear hq hsn hA hs hv hvj hlt64
      generalize xs.getD j 0 = p at *
      generalize L.wordOf 8 (xs.take j) = a at *
      go_wp2
      go_round
      case rel => exact ⟨j + 1, by omega, by go_num, by rw [HO.out]⟩
      case measure => simp [intOf]; omega
    · go_wp2
      go_ret
      rw [show j = xs.length from by omega, List.take_length]
      exact ⟨rfl, rfl⟩

/-- what the reader hands out, and what it is behind that -/
def tk (n : Nat) (xs : List Nat) : List Nat := if n ≤ xs.length then xs.take n else []
def tkL (n : Nat) (xs : List Nat) : List Nat := if n ≤ xs.length then xs.drop n else []
def tkS (n : Nat) (xs : List Nat) (s : Bool) : Bool := if n ≤ xs.length then s else true
end Go.Proofs.YthonbfojpbfmgaaGreatDoor

/- Package kernel: bitmaps: new ones, ranges of bits, what is in one or the other, in both. -/
set_option linter.unusedVariables false
set_option linter.unusedSimpArgs false
set_option linter.unnecessarySimpa false
set_option maxRecDepth 100000
namespace Go.Proofs.YthonbfojpbfmgaaGreatDoor
open Go.RowKit

end Go.Proofs.YthonbfojpbfmgaaGreatDoor
