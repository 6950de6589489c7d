/- bitvec's Dense and the plain answer's. -/
import Derived.Test.YtinkbgnhigpkeaaDoorPlaces2
set_option linter.unusedVariables false
set_option linter.unusedSimpArgs false
set_option linter.unnecessarySimpa false
namespace Go.Proofs.YtinkbgnhigpkeaaDoor
open Go.RowKit

/-- from least on, strictly ascending, below n -/
def ascB (n : Int) : Int → List Int → Bool
  | _, [] => true
  | least, p :: ps => decide (least ≤ p) && decide (p < n) && ascB n (p + 1) ps
def denseOk (n : Int) (ps : List Int) : Bool := decide (0 ≤ n ∧ n ≤ 65536) && ascB n 0 ps
def denseR (n : Int) (ps : List Int) : List Nat := if denseOk n ps = true then bmL ((List.range n.toNat).map fun i : Nat => decide ((i : Int) ∈ ps)) else []
def DInv (m : Nat) (ps : List Int) (k : Nat) (least : Int) (f : Nat → Bool) : Prop :=
  ascB m 0 ps = ascB m least (ps.drop k) ∧ ∀ j : Nat, f j = decide ((j : Int) ∈ ps.take k)
theorem dinv_start (m : Nat) (ps : List Int) (f : Nat → Bool) (h : ∀ j, f j = false) : DInv m ps 0 0 f := ⟨by simp, fun j => by simp [h j]⟩
theorem drop_at (ps : List Int) (k : Nat) (hk : k < ps.length) : ps.drop k = ps.getD k 0 :: ps.drop (k + 1) := by
  rw [List.drop_eq_getElem_cons hk]; simp [List.getD, List.getElem?_eq_getElem hk]
theorem dinv_fail {m k : Nat} {ps : List Int} {least p : Int} {f : Nat → Bool} (hk : k < ps.length) (hp : ps.getD k 0 = p) (h : DInv m ps k least f) (hb : p < least ∨ (m : Int) ≤ p) : ascB m 0 ps = false := by
  rw [h.1, drop_at ps k hk, hp, ascB]
  rcases hb with h1 | h1
  · simp [show ¬ least ≤ p from by omega]
  · simp [show ¬ p < (m : Int) from by omega]
theorem dinv_step {m k q : Nat} {ps : List Int} {least : Int} {f f' : Nat → Bool} (hk : k < ps.length) (hp : ps.getD k 0 = (q : Int)) (h : DInv m ps k least f) (h1 : least ≤ q) (h2 : q < m) (hf : ∀ j, f' j = (f j || decide (j = q))) : DInv m ps (k + 1) ((q : Int) + 1) f' := by
  refine ⟨?_, fun j => ?_⟩
  · rw [h.1, drop_at ps k hk, hp, ascB]
    simp [h1, show (q : Int) < (m : Int) from by omega]
  · have e : ps[k] = (q : Int) := by rw [← hp]; simp [List.getD, List.getElem?_eq_getElem hk]
    rw [hf, h.2, List.take_succ_eq_append_getElem hk, e]
    by_cases hj : j = q
    · simp [hj]
    · simp [hj, show ¬ (j : Int) = (q : Int) from by omega]
theorem dinv_end {m : Nat} {ps : List Int} {least : Int} {f : Nat → Bool} (h : DInv m ps ps.length least f) : ascB m 0 ps = true ∧ ∀ j : Nat, f j = decide ((j : Int) ∈ ps) := by
  refine ⟨by rw [h.1, List.drop_length, ascB], fun j => by rw [h.2, List.take_length]⟩
theorem asc_lt {n : Int} : ∀ {least : Int} {ps : List Int}, ascB n least ps = true → ∀ p ∈ ps, least ≤ p ∧ p < n
  | _, [], _, p, hp => by cases hp
  | least, q :: ps, h, p, hp => by
    simp only [ascB, Bool.and_eq_true, decide_eq_true_eq] at h
    rcases List.mem_cons.1 hp with rfl | hp
    · exact ⟨h.1.1, h.1.2⟩
    · have := asc_lt h.2 p hp
      omega
theorem dense_bm (m : Nat) (ps : List Int) (ys : List Nat) (hlen : ys.length = L.nWords 1 m) (hv : ∀ x ∈ ys, x < 18446744073709551616) (hok : ascB m 0 ps = true) (hb : ∀ j : Nat, bitOf ys j = decide ((j : Int) ∈ ps)) :
    ys = bmL ((List.range m).map fun i : Nat => decide ((i : Int) ∈ ps)) := by
  obtain ⟨h1, h2, h3⟩ := bmL_isBm ((List.range m).map fun i : Nat => decide ((i : Int) ∈ ps))
  simp only [List.length_map, List.length_range] at h1 h3
  refine bm_ext (hlen.trans h1.symm) hv h2 (fun i hi => ?_)
  rw [hb, h3 i (by rw [h1, ← hlen]; exact hi)]
  by_cases hm : i < m
  · simp [hm, List.getD]
  · have : ¬ (i : Int) ∈ ps := fun hin => by have := (asc_lt hok _ hin).2; omega
    simp [hm, this]
theorem bitOf_zeros (k j : Nat) : bitOf (List.replicate k 0) j = false := by
  unfold bitOf
  have : (List.replicate k 0).getD (j / 64) 0 = 0 := by
    simp only [List.getD, List.getElem?_replicate]; split <;> rfl
  rw [this, Nat.zero_testBit]

set_option maxHeartbeats 2000000 in
theorem Dense_any (v : Value) (ps : List Int) (n : Int) (w : World) (hx : Rd w v ps.length 1 (i64s ps)) (hl : ps.length ≤ maxLen) :
    Calls Tryd.prog 19 #[v, .int .i64 n] w fun e w' => ∃ r, e = .returned (.tuple #[r, .bool (denseOk n ps)]) ∧ w'.ownsRow w.heap.size 55 1 r (denseR n ps).length (u64s (denseR n ps)) ∧ Below w.heap.size w w' := by
  unfold maxLen at hl
  obtain ⟨A, ca, rfl, hlc, hcm, hA⟩ := hx.form
  clear hx hlc hcm
  obtain ⟨ok, hok⟩ : ∃ ok, denseOk n ps = ok := ⟨_, rfl⟩
  obtain ⟨R, hR⟩ : ∃ R, denseR n ps = R := ⟨_, rfl⟩
  rw [hok, hR]
  have HOK := hid hok; have HR := hid hR
  clear hok hR
  have HNO : Hid (denseOk n ps = false → R = [] ∧ ok = false) := hid (fun h => ⟨by rw [← HR.out, denseR, if_neg (by rw [h]; simp)], by rw [← HOK.out, h]⟩)
  go_enter Tryd.func19, Tryd.ntmps19
  by_cases h0 : n < 0
  · go_wp2
    go_ret2
    have h := HNO.out (by unfold denseOk; simp; omega)
    exact ⟨.slice none 0 0, by rw [h.2]; rfl, by rw [h.1]; exact World.ownsRow_nil _ _ _ _, Below.refl _ _⟩
  by_cases h1 : 65536 < n
  · go_wp2
    go_ret2
    have h := HNO.out (by unfold denseOk; simp; omega)
    exact ⟨.slice none 0 0, by rw [h.2]; rfl, by rw [h.1]; exact World.ownsRow_nil _ _ _ _, Below.refl _ _⟩
  obtain ⟨m, rfl⟩ := Int.eq_ofNat_of_zero_le (show 0 ≤ n by omega)
  have hm : m ≤ 65536 := by omega
  have HASC : Hid (ascB m 0 ps = false → R = [] ∧ ok = false) := hid (fun h => HNO.out (by unfold denseOk; simp [h]))
  have HYES : Hid (ascB m 0 ps = true → R = bmL ((List.range m).map fun i : Nat => decide ((i : Int) ∈ ps)) ∧ ok = true) := hid (fun h => by
    have h2 : denseOk (m : Int) ps = true := by unfold denseOk; simp [h]; omega
    exact ⟨by rw [← HR.out, denseR, if_pos h2, Int.toNat_natCast], by rw [← HOK.out, h2]⟩)
  have hml := L.nWords_le (w := 1) (n := m) (by omega)
  have HNW := hid (nWords1_le m)
  have HBW := hid (bitWords_any m w hm)
  obtain ⟨q, hq⟩ : ∃ q, L.nWords 1 m = q := ⟨_, rfl⟩
  rw [hq] at hml HNW HBW
  have HQ := hid hq
  clear hq HNO
  go_wp2_with (go_at_call 43; refine HBW.out.mono ?_; rintro e w' ⟨rfl, hw⟩; replace hw := hw.symm; subst hw)
  refine upon_make 55 (.int .u64 0) 8 Tryd.underlying22 Tryd.info45 rfl q (by omega) (by omega) (by omega) (by unfold maxLen; omega) ?_
  intro w1 hrow hb1 hsz1
  have HZ1 := hid hsz1
  have hrow2 : Row w1 w.heap.size 55 (u64s (List.replicate q 0)) := by
    have e : u64s (List.replicate q 0) = List.replicate q (.int .u64 0) := by simp [u64s, u64]
    rw [e]; exact hrow
  have HROW := hid hrow2
  clear hsz1 hrow hrow2
  go_wp2
  go_loopw [7, 21] (fun l i wr => ∃ (k : Nat) (least : Int) (ys : List Nat), k ≤ ps.length ∧ i = .int .i64 k ∧ l = .int .i64 least ∧ 0 ≤ least ∧ least ≤ m ∧ Hid (DInv m ps k least (bitOf ys)) ∧ Hid (ys.length = q ∧ ∀ x ∈ ys, x < 18446744073709551616) ∧ Hid (Row wr w.heap.size 55 (u64s ys)) ∧ Below w.heap.size w wr ∧ Hid (wr.heap.size = w.heap.size + 1)) (fun _ i _ => ps.length - (intOf i).toNat)
  case atStart => exact ⟨0, 0, List.replicate q 0, by omega, rfl, rfl, by omega, by omega, hid (dinv_start _ _ _ (bitOf_zeros q)), hid ⟨by simp, by intro x hx; rw [List.eq_of_mem_replicate hx]; omega⟩, HROW, hb1, HZ1⟩
  case round =>
    obtain ⟨k, least, ys, hk, rfl, rfl, hl0, hlm, HD, HYS, HRW, hb, HZ⟩ := hrel
    clear HROW hb1 HZ1
    by_cases hlt : k < ps.length
    · obtain ⟨b, o, rfl, hs⟩ := hA (by omega)
      have c1 := (hs.mono (hb.mono (Nat.le_refl _))).int k hlt
      obtain ⟨p, hp⟩ : ∃ p, ps.getD k 0 = p := ⟨_, rfl⟩
      rw [hp] at c1
      have HP := hid hp
      clear hs hA hp
      by_cases hb0 : p < least
      · go_wp2
        go_ret2
        have h := HASC.out (dinv_fail hlt HP.out HD.out (.inl hb0))
        exact ⟨.slice none 0 0, by rw [h.2]; rfl, by rw [h.1]; exact World.ownsRow_nil _ _ _ _, hb⟩
      by_cases hbm : (m : Int) ≤ p
      · go_wp2
        go_ret2
        have h := HASC.out (dinv_fail hlt HP.out HD.out (.inr hbm))
        exact ⟨.slice none 0 0, by rw [h.2]; rfl, by rw [h.1]; exact World.ownsRow_nil _ _ _ _, hb⟩
      obtain ⟨j, rfl⟩ := Int.eq_ofNat_of_zero_le (show 0 ≤ p by omega)
      have HSB := hid (setBit_any w.heap.size q q j ys wr HRW.out HYS.out.1 (Nat.le_refl _) (by have := HNW.out; omega) HYS.out.2 (by omega))
      have HBS := hid (bitOf_set ys j (by have := HNW.out; have := HYS.out.1; omega))
      have HS6 := hid (set_lt64 ys HYS.out.2 j)
      go_wp2_with (go_at_call 44; refine HSB.out.mono ?_; rintro e w2 ⟨rfl, hr2, hb2, hz2, -⟩; have HR2 := hid hr2; have HZ2 := hid hz2; clear hr2 hz2)
      go_roundw
      case rel =>
        refine ⟨k + 1, (j : Int) + 1, _, by omega, by go_num, rfl, by omega, by omega, hid (dinv_step hlt HP.out HD.out (by omega) (by omega) HBS.out), hid ⟨by rw [List.length_set]; exact HYS.out.1, HS6.out⟩, HR2, hb.trans hb2, hid (by rw [HZ2.out]; exact HZ.out)⟩
      case measure => simp [intOf]; omega
    · go_wp2
      go_ret2
      obtain rfl : k = ps.length := by omega
      have he := dinv_end HD.out
      have h := HYES.out he.1
      have hbm := dense_bm m ps ys (by rw [HYS.out.1, HQ.out]) HYS.out.2 he.1 he.2
      refine ⟨_, by rw [h.2]; rfl, ?_, hb⟩
      rw [h.1, ← hbm, HYS.out.1]
      exact HRW.out.owns (Nat.le_refl _) (by rw [u64s_length, HYS.out.1]) (by unfold maxLen; omega)
end Go.Proofs.YtinkbgnhigpkeaaDoor
