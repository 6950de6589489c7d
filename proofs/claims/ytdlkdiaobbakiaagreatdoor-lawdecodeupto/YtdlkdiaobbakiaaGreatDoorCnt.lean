/- Package chunk: counts of the bits before each word; a packing's lane; the first end of a run behind a place; the ends of texts. -/
import Derived.Test.YtdlkdiaobbakiaaGreatDoorNeed
import Derived.Test.YtdlkdiaobbakiaaGreatDoorRank
set_option linter.unusedVariables false
set_option linter.unusedSimpArgs false
set_option linter.unnecessarySimpa false
set_option maxRecDepth 20000
namespace Go.Proofs.YtdlkdiaobbakiaaGreatDoor
open Go.RowKit

theorem popL_snoc (ws : List Nat) (x : Nat) : popL (ws ++ [x]) = popL ws + L.popN 64 x := by rw [popL_append]; simp [popL]
/-- for each word the bits set in the words before it -/
def befL (ws : List Nat) : List Int := (List.range ws.length).map fun k => (popL (ws.take k) : Int)
theorem befL_length (ws : List Nat) : (befL ws).length = ws.length := by simp [befL]
theorem befL_get (ws : List Nat) (k : Nat) (h : k < ws.length) : (befL ws).getD k 0 = (popL (ws.take k) : Int) := by
  simp [befL, List.getD, List.getElem?_map, List.getElem?_range h]

set_option maxHeartbeats 2000000 in
theorem countBefore_any (v : Value) (xs : List Nat) (w : World) (hx : Rd w v xs.length 1 (u64s xs)) (hv : ∀ x ∈ xs, x < 18446744073709551616) (hl : xs.length ≤ 65536) :
    Calls Tryz.prog 70 #[v] w fun e w' => e = .returned (.slice (some ⟨w.heap.size, 0, none⟩) xs.length xs.length) ∧ Row w' w.heap.size 3 (i64s (befL xs)) ∧ Below w.heap.size w w' := by
  obtain ⟨A, ca, rfl, hlc, hcm, hA⟩ := hx.form
  have HX := hid hx
  clear hx hA
  obtain ⟨p, hp⟩ : ∃ p, w.heap.size = p := ⟨_, rfl⟩
  have HP := hid hp
  rw [hp]
  clear hp
  go_enter Tryz.func70, Tryz.ntmps70
  go_wp2
  refine upon_make 3 (.int .i64 0) 8 Tryz.underlying23 Tryz.infoI64 rfl xs.length (by omega) (by omega) (by omega) (by unfold maxLen; omega) ?_
  intro w1 hrow hb1 hsz1
  rw [HP.out] at hrow hb1 hsz1 ⊢
  have HROW := hid hrow
  have HB1 := hid hb1
  have HX1 := hid (HX.out.mono (by rw [HP.out]; exact hb1))
  have hp1 : p < w1.heap.size := by omega
  clear hrow hb1
  go_wp2
  go_loopw [4, 12] (fun u i wr => ∃ j : Nat, j ≤ xs.length ∧ i = .int .i64 j ∧ u = .int .i64 (popL (xs.take j) : Nat) ∧ Row wr p 3 (i64s ((List.range j).map fun k => (popL (xs.take k) : Int)) ++ List.replicate (xs.length - j) (.int .i64 0)) ∧ Below p w1 wr) (fun _ i _ => xs.length - (intOf i).toNat)
  case atStart => exact ⟨0, by omega, rfl, by simp [popL], by simpa [i64s] using HROW.out, Below.refl _ _⟩
  case round =>
    obtain ⟨j, hj, rfl, rfl, hr, hb⟩ := hrel
    by_cases hlt : j < xs.length
    · have hcell : wr.cell? ⟨p, j, none⟩ = some (.int .i64 0) := by
        rw [hr.cell]; exact get_fill _ _ _ _ (by simp [i64s]) (by omega)
      have hfr := hr.frozen j
      have hx2 : Rd wr (.slice A xs.length ca) xs.length 1 (u64s xs) := HX.out.mono (by rw [HP.out]; exact HB1.out.trans hb)
      obtain ⟨A', ca', he, _, _, hA⟩ := hx2.form
      cases he
      obtain ⟨b, o, rfl, hs⟩ := hA (by omega)
      have c1 := hs.word j hlt
      have hvj : xs.getD j 0 < 18446744073709551616 := hv _ (by simp [List.getD, List.getElem?_eq_getElem hlt])
      have hsn : popL (xs.take (j + 1)) = popL (xs.take j) + L.popN 64 (xs.getD j 0) := by
        rw [List.take_succ_eq_append_getElem hlt, popL_snoc]
        simp [List.getD, List.getElem?_eq_getElem hlt]
      have hpl := popL_le (xs.take j)
      have hpl2 := L.popN_le 64 (xs.getD j 0)
      rw [List.length_take, Nat.min_eq_left hj] at hpl
      have HRW := hid hr
      have HSN := hid hsn
      clear hr hs hA hx2 hsn
      generalize ha : popL (xs.take j) = a at *
      have HA' := hid ha
      clear ha
      generalize hq : xs.getD j 0 = q at *
      clear hq
      go_wp2_with (go_at_call 96; refine (onesCount_any q _ hvj).mono ?_; rintro e w3 ⟨rfl, hw⟩; subst hw)
      go_roundw
      case rel =>
        refine ⟨j + 1, by omega, by go_num, ?_, ?_, below_set hb _ _ _ (Nat.le_refl _)⟩
        · rw [HSN.out]; go_num
        · have hss := HRW.out.set j (.int .i64 (a : Nat))
          rw [set_fill _ _ _ _ _ (by simp [i64s]) (by omega)] at hss
          rw [List.range_succ, List.map_append, i64s_append, List.map_singleton, HA'.out, ← Nat.sub_sub xs.length j 1]
          exact hss
      case measure => simp [intOf]; omega
    · obtain rfl : j = xs.length := by omega
      go_wp2
      go_ret
      refine ⟨rfl, ?_, HB1.out.trans hb⟩
      have := hr
      rw [Nat.sub_self, List.replicate_zero, List.append_nil] at this
      exact this
end Go.Proofs.YtdlkdiaobbakiaaGreatDoor
