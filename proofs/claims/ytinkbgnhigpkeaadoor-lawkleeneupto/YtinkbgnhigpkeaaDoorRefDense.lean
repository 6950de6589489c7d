/- The plain answer's Dense. -/
import Derived.Test.YtinkbgnhigpkeaaDoorDense
import Derived.Deep.Onto
set_option linter.unusedVariables false
set_option linter.unusedSimpArgs false
set_option linter.unnecessarySimpa false
namespace Go.Proofs.YtinkbgnhigpkeaaDoor
open Go.RowKit

theorem bools_length (fl : List Bool) : (bools fl).length = fl.length := by simp [bools]
theorem bools_set (fl : List Bool) (i : Nat) (b : Bool) : (bools fl).set i (.bool b) = bools (fl.set i b) := by simp [bools, List.map_set]
theorem getD_setB (fl : List Bool) (q : Nat) (hq : q < fl.length) (b : Bool) (j : Nat) : (fl.set q b).getD j false = if j = q then b else fl.getD j false := by
  simp only [List.getD]
  by_cases h : j = q
  · subst h; simp [hq]
  · rw [if_neg h, List.getElem?_set_ne (by omega)]
theorem flags_eq (m : Nat) (F : Nat → Bool) (fl : List Bool) (hl : fl.length = m) (h : ∀ j, j < m → fl.getD j false = F j) : fl = (List.range m).map F := by
  apply List.ext_getElem (by simp [hl])
  intro i h1 h2
  have := h i (by omega)
  simp only [List.getD, List.getElem?_eq_getElem h1, Option.getD_some] at this
  simp [this]
theorem getD_repB (m j : Nat) : (List.replicate m false).getD j false = false := by
  simp only [List.getD, List.getElem?_replicate]; split <;> rfl

set_option maxHeartbeats 2000000 in
theorem refDense_any (v : Value) (ps : List Int) (n : Int) (w : World) (hx : Rd w v ps.length 1 (i64s ps)) (hl : ps.length ≤ maxLen) :
    Calls Tryd.prog 21 #[v, .int .i64 n] w fun e w' => ∃ r, e = .returned (.tuple #[r, .bool (denseOk n ps)]) ∧ w'.ownsRow w.heap.size 55 1 r (denseR n ps).length (u64s (denseR n ps)) ∧ Below w.heap.size w w' := by
  unfold maxLen at hl
  obtain ⟨A, ca, rfl, hlc, hcm, hA⟩ := hx.form
  clear hx hlc hcm
  obtain ⟨ok, hok⟩ : ∃ ok, denseOk n ps = ok := ⟨_, rfl⟩
  obtain ⟨R, hR⟩ : ∃ R, denseR n ps = R := ⟨_, rfl⟩
  rw [hok, hR]
  have HOK := hid hok; have HR := hid hR
  clear hok hR
  have HNO : Hid (denseOk n ps = false → R = [] ∧ ok = false) := hid (fun h => ⟨by rw [← HR.out, denseR, if_neg (by rw [h]; simp)], by rw [← HOK.out, h]⟩)
  go_enter Tryd.func21, Tryd.ntmps21
  by_cases h0 : n < 0
  · go_wp2
    go_ret2
    have h := HNO.out (by unfold denseOk; simp; omega)
    exact ⟨.slice none 0 0, by rw [h.2]; rfl, by rw [h.1]; exact World.ownsRow_nil _ _ _ _, Below.refl _ _⟩
  by_cases h1 : 65536 < n
  · go_wp2
    go_ret2
    have h := HNO.out (by unfold denseOk; simp; omega)
    exact ⟨.slice none 0 0, by rw [h.2]; rfl, by rw [h.1]; exact World.ownsRow_nil _ _ _ _, Below.refl _ _⟩
  obtain ⟨m, rfl⟩ := Int.eq_ofNat_of_zero_le (show 0 ≤ n by omega)
  have hm : m ≤ 65536 := by omega
  have HASC : Hid (ascB m 0 ps = false → R = [] ∧ ok = false) := hid (fun h => HNO.out (by unfold denseOk; simp [h]))
  have HYES : Hid (ascB m 0 ps = true → R = bmL ((List.range m).map fun i : Nat => decide ((i : Int) ∈ ps)) ∧ ok = true) := hid (fun h => by
    have h2 : denseOk (m : Int) ps = true := by unfold denseOk; simp [h]; omega
    exact ⟨by rw [← HR.out, denseR, if_pos h2, Int.toNat_natCast], by rw [← HOK.out, h2]⟩)
  clear HNO
  go_wp2_with fail
  refine upon_make 4 (.bool false) 1 Tryd.underlying51 Tryd.infoBool rfl m (by omega) (by omega) (by omega) (by unfold maxLen; omega) ?_
  intro w1 hrow hb1 hsz1
  have HZ1 := hid hsz1
  have hrow2 : Row w1 w.heap.size 4 (bools (List.replicate m false)) := by
    have e : bools (List.replicate m false) = List.replicate m (.bool false) := by simp [bools]
    rw [e]; exact hrow
  have HROW := hid hrow2
  clear hsz1 hrow hrow2
  go_wp2
  go_loopw [7, 20] (fun l i wr => ∃ (k : Nat) (last : Int) (fl : List Bool), k ≤ ps.length ∧ i = .int .i64 k ∧ l = .int .i64 last ∧ -1 ≤ last ∧ last < m ∧ Hid (DInv m ps k (last + 1) (fun j => fl.getD j false)) ∧ Hid (fl.length = m) ∧ Hid (Row wr w.heap.size 4 (bools fl)) ∧ Below w.heap.size w wr ∧ Hid (wr.heap.size = w.heap.size + 1)) (fun _ i _ => ps.length - (intOf i).toNat)
  case atStart => exact ⟨0, -1, List.replicate m false, by omega, rfl, rfl, by omega, by omega, hid (dinv_start _ _ _ (getD_repB m)), hid (by simp), HROW, hb1, HZ1⟩
  case round =>
    obtain ⟨k, last, fl, hk, rfl, rfl, hl0, hlm, HD, HFL, HRW, hb, HZ⟩ := hrel
    clear HROW hb1 HZ1
    by_cases hlt : k < ps.length
    · obtain ⟨b, o, rfl, hs⟩ := hA (by omega)
      have c1 := (hs.mono (hb.mono (Nat.le_refl _))).int k hlt
      obtain ⟨p, hp⟩ : ∃ p, ps.getD k 0 = p := ⟨_, rfl⟩
      rw [hp] at c1
      have HP := hid hp
      clear hs hA hp
      by_cases hb0 : p ≤ last
      · go_wp2
        go_ret2
        have h := HASC.out (dinv_fail hlt HP.out HD.out (.inl (by omega)))
        exact ⟨.slice none 0 0, by rw [h.2]; rfl, by rw [h.1]; exact World.ownsRow_nil _ _ _ _, hb⟩
      by_cases hbm : (m : Int) ≤ p
      · go_wp2
        go_ret2
        have h := HASC.out (dinv_fail hlt HP.out HD.out (.inr hbm))
        exact ⟨.slice none 0 0, by rw [h.2]; rfl, by rw [h.1]; exact World.ownsRow_nil _ _ _ _, hb⟩
      obtain ⟨j, rfl⟩ := Int.eq_ofNat_of_zero_le (show 0 ≤ p by omega)
      have hjf : j < fl.length := by have := HFL.out; omega
      have c2 : wr.cell? ⟨w.heap.size, j, none⟩ = some (.bool (fl.getD j false)) := by rw [HRW.out.cell]; exact bools_get fl j hjf
      have hfr := HRW.out.frozen j
      have HBS := hid (getD_setB fl j hjf true)
      have HRS := hid (HRW.out.set j (.bool true))
      clear hjf
      generalize fl.getD j false = fb at c2
      go_wp2
      go_roundw
      case rel =>
        refine ⟨k + 1, j, fl.set j true, by omega, by go_num, rfl, by omega, by omega, hid (dinv_step hlt HP.out HD.out (by omega) (by omega) (fun i => ?_)), hid (by rw [List.length_set]; exact HFL.out), hid (by rw [← bools_set]; exact HRS.out), below_set hb _ _ _ (Nat.le_refl _), hid (by rw [← HZ.out]; simp [World.setCell])⟩
        rw [HBS.out i]
        by_cases h : i = j <;> simp [h]
      case measure => simp [intOf]; omega
    · obtain rfl : k = ps.length := by omega
      have he := dinv_end HD.out
      have HH := hid (HYES.out he.1)
      have HFE := hid (flags_eq m (fun j : Nat => decide ((j : Int) ∈ ps)) fl HFL.out (fun j _ => he.2 j))
      have HBO := hid (bitmapOf_any (.slice (some ⟨w.heap.size, 0, none⟩) m m) fl wr (by rw [HFL.out]; exact HRW.out.rd' (by rw [bools_length]; exact HFL.out) (by unfold maxLen; omega)) (by rw [HFL.out]; exact hm))
      clear he
      go_wp2_with (go_at_call 33; refine HBO.out.mono ?_; rintro e w2 ⟨r, rfl, ho2, hb2⟩; have HO2 := hid ho2; clear ho2)
      go_ret2
      refine ⟨r, by rw [HH.out.2]; rfl, ?_, bthen hb hb2⟩
      rw [HH.out.1, ← HFE.out]
      exact World.ownsRow.mono HO2.out hb.size
end Go.Proofs.YtinkbgnhigpkeaaDoor
