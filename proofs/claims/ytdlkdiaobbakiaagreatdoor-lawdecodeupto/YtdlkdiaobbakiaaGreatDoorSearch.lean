/- slices.BinarySearch over ints. -/
import Derived.Test.YtdlkdiaobbakiaaGreatDoorCnt
set_option linter.unusedVariables false
set_option linter.unusedSimpArgs false
set_option linter.unnecessarySimpa false
set_option maxRecDepth 20000
namespace Go.Proofs.YtdlkdiaobbakiaaGreatDoor
open Go.RowKit

theorem isNaNi_any (x : Int) (w : World) : Calls Tryz.prog 197 #[.int .i64 x] w fun e w' => e = .returned (.bool false) ∧ w' = w := by
  have e1 : (x != x) = false := by simp
  go_enter Tryz.func197, Tryz.ntmps197
  go_wp2
  go_ret
  exact ⟨rfl, rfl⟩
theorem isNaNs_any (x : Int) (w : World) : Calls Tryz.prog 185 #[.int .i64 x] w fun e w' => e = .returned (.bool false) ∧ w' = w := by
  have e1 : (x != x) = false := by simp
  go_enter Tryz.func185, Tryz.ntmps185
  go_wp2
  go_ret
  exact ⟨rfl, rfl⟩
theorem Less_any (x y : Int) (w : World) : Calls Tryz.prog 184 #[.int .i64 x, .int .i64 y] w fun e w' => e = .returned (.bool (decide (x < y))) ∧ w' = w := by
  go_enter Tryz.func184, Tryz.ntmps184
  go_wp2_with (go_at_call 197; refine (isNaNi_any _ _).mono ?_; rintro e w' ⟨rfl, rfl⟩)
  all_goals go_ret
  all_goals exact ⟨rfl, rfl⟩

/-- the first place whose entry is t or more -/
def firstGe (es : List Int) (t : Int) : Nat := es.findIdx fun e => decide (t ≤ e)
theorem firstGe_eq (es : List Int) (t : Int) (i : Nat) (hi : i ≤ es.length) (h1 : ∀ a, a < i → es.getD a 0 < t) (h2 : i < es.length → t ≤ es.getD i 0) : firstGe es t = i := by
  unfold firstGe
  by_cases hlt : i < es.length
  · rw [List.findIdx_eq hlt]
    refine ⟨?_, fun j hj => ?_⟩
    · have := h2 hlt
      simpa [List.getD, List.getElem?_eq_getElem hlt] using this
    · have := h1 j hj
      have hjl : j < es.length := by omega
      simp only [List.getD, List.getElem?_eq_getElem hjl, Option.getD_some] at this
      simpa using this
  · have : i = es.length := by omega
    rw [this, List.findIdx_eq_length]
    intro x hx
    obtain ⟨j, hj, rfl⟩ := List.getElem_of_mem hx
    have := h1 j (by omega)
    simp only [List.getD, List.getElem?_eq_getElem hj, Option.getD_some] at this
    simpa using this
theorem firstGe_le (es : List Int) (t : Int) : firstGe es t ≤ es.length := List.findIdx_le_length

set_option maxHeartbeats 2000000 in
theorem BinarySearch_any (v : Value) (es : List Int) (t : Int) (w : World) (hx : Rd w v es.length 1 (i64s es)) (hl : es.length ≤ 1048576) (hup : ∀ a b, a < b → b < es.length → es.getD a 0 < es.getD b 0) :
    Calls Tryz.prog 157 #[v, .int .i64 t] w fun e w' => (∃ b : Value, e = .returned (.tuple #[.int .i64 (firstGe es t : Nat), b])) ∧ ∃ n, w' = w.drewN n := by
  obtain ⟨A, ca, rfl, hlc, hcm, hA⟩ := hx.form
  have HX := hid hx
  have HUP := hid hup
  clear hx hup
  go_enter Tryz.func157, Tryz.ntmps157
  go_wp2
  go_loop [7, 8] (fun u x => ∃ i j : Nat, i ≤ j ∧ j ≤ es.length ∧ u = .int .i64 i ∧ x = .int .i64 j ∧ (∀ a, a < i → es.getD a 0 < t) ∧ (∀ a, j ≤ a → a < es.length → t ≤ es.getD a 0)) (fun u x => (intOf x).toNat - (intOf u).toNat)
  case atStart => exact ⟨0, es.length, by omega, by omega, rfl, rfl, fun a h => by omega, fun a h1 h2 => by omega⟩
  case round =>
    obtain ⟨i, j, hij, hj, rfl, rfl, h1, h2⟩ := hrel
    have H1 := hid h1
    have H2 := hid h2
    clear h1 h2
    by_cases hlt : i < j
    · obtain ⟨b, o, rfl, hs⟩ := hA (by omega)
      obtain ⟨m, hm⟩ : ∃ m, (i + j) / 2 = m := ⟨_, rfl⟩
      have hm' : ((i : Int) + (j : Int)) / 2 = (m : Int) := by omega
      have hml : m < es.length := by omega
      have c1 := hs.int m hml
      have him : i ≤ m := by omega
      have hmj : m < j := by omega
      have HLT : Hid (es.getD m 0 < t → ∀ a, a < m + 1 → es.getD a 0 < t) := by
        intro h a ha
        by_cases ham : a = m
        · subst ham; exact h
        · have := HUP.out a m (by omega) hml; omega
      have HGE : Hid (t ≤ es.getD m 0 → ∀ a, m ≤ a → a < es.length → t ≤ es.getD a 0) := by
        intro h a ha1 ha2
        by_cases ham : a = m
        · subst ham; exact h
        · have := HUP.out m a (by omega) ha2; omega
      clear hs hA hm
      generalize es.getD m 0 = x at *
      go_wp2_with (go_at_call 184; refine (Less_any _ _ _).mono ?_; rintro e w' ⟨rfl, hw⟩; subst hw)
      · go_round
        case rel => exact ⟨m + 1, j, by omega, by omega, by go_num, rfl, HLT.out (by assumption), H2.out⟩
        case measure => simp [intOf]; omega
      · go_round
        case rel => exact ⟨i, m, by omega, by omega, rfl, rfl, H1.out, HGE.out (by omega)⟩
        case measure => simp [intOf]; omega
    · have hf : firstGe es t = i := firstGe_eq es t i (by omega) H1.out (fun h => H2.out i (by omega) h)
      have HF := hid hf
      clear hf
      by_cases hie : i < es.length
      · obtain ⟨b, o, rfl, hs⟩ := hA (by omega)
        have c1 := hs.int i hie
        clear hs hA
        generalize es.getD i 0 = x at *
        go_wp2_with (go_at_call 185; refine (isNaNs_any _ _).mono ?_; rintro e w' ⟨rfl, hw⟩; subst hw)
        all_goals go_ret2
        all_goals exact ⟨⟨_, by rw [HF.out]; rfl⟩, 0, rfl⟩
      · go_wp2
        all_goals go_ret2
        all_goals exact ⟨⟨_, by rw [HF.out]; rfl⟩, 0, rfl⟩
end Go.Proofs.YtdlkdiaobbakiaaGreatDoor
