/- Package chunk: neighbours of a list of values, both kinds. -/
import Derived.Test.YtdlkdiaobbakiaaGreatDoorChk
import Derived.Laws.Cover1
set_option linter.unusedVariables false
set_option linter.unusedSimpArgs false
set_option linter.unnecessarySimpa false
set_option maxRecDepth 20000
namespace Go.Proofs.YtdlkdiaobbakiaaGreatDoor
open Go.RowKit

set_option maxHeartbeats 1000000 in
theorem ascendingI_any (v : Value) (xs : List Int) (w : World) (hx : Rd w v xs.length 1 (i64s xs)) (hl : xs.length ≤ maxLen) :
    Calls Tryz.prog 139 #[v] w fun e w' => e = .returned (.bool (noPair geI xs)) ∧ ∃ n, w' = w.drewN n := by
  unfold maxLen at hl
  obtain ⟨A, ca, rfl, hlc, hcm, hA⟩ := hx.form
  clear hx
  go_enter Tryz.func139, Tryz.ntmps139
  go_wp2
  go_loopw [3] (fun i wr => (∃ k : Nat, 1 ≤ k ∧ i = .int .i64 k ∧ (k ≤ xs.length ∨ k = 1) ∧ ∀ t, t + 1 < k → geI (xs.getD t 0) (xs.getD (t + 1) 0) = false) ∧ ∃ n, wr = w.drewN n) (fun i _ => xs.length - (intOf i).toNat)
  case atStart => exact ⟨⟨1, by omega, rfl, .inr rfl, fun t h => by omega⟩, 0, rfl⟩
  case round =>
    obtain ⟨⟨k, hk1, rfl, hk, hall⟩, n, rfl⟩ := hrel
    have HA := hid hall
    clear hall
    by_cases hlt : k < xs.length
    · obtain ⟨j, rfl⟩ : ∃ j, k = j + 1 := ⟨k - 1, by omega⟩
      obtain ⟨b, o, rfl, hs⟩ := hA (by omega)
      have c1 := hs.int j (by omega)
      have c2 := hs.int (j + 1) hlt
      have HG : Hid (geI (xs.getD j 0) (xs.getD (j + 1) 0) = false → ∀ t, t + 1 < j + 1 + 1 → geI (xs.getD t 0) (xs.getD (t + 1) 0) = false) := by
        intro h t ht
        by_cases htk : t = j
        · subst htk; exact h
        · exact HA.out t (by omega)
      have HB : Hid (geI (xs.getD j 0) (xs.getD (j + 1) 0) = true → noPair geI xs = false) := by
        intro h
        rw [← Bool.not_eq_true, noPair_iff geI 0]
        intro hp
        rw [hp j hlt] at h; cases h
      have e1 : ((j + 1 : Nat) : Int) - 1 = (j : Int) := by omega
      have e2 : (((j + 1 : Nat) : Int)).toNat = j + 1 := by omega
      clear hA hs
      generalize xs.getD j 0 = p at *
      generalize xs.getD (j + 1) 0 = q at *
      go_wp2
      go_quiet (fail)
      go_wp2
      · rename_i h
        go_ret
        exact ⟨ret_bool (HB.out (by simpa [geI] using h)).symm, _, by simp; rfl⟩
      · rename_i h
        go_roundw
        case rel => exact ⟨⟨j + 1 + 1, by omega, by go_num, .inl (by omega), HG.out (by simpa [geI] using h)⟩, _, rfl⟩
        case measure => simp [intOf]; omega
    · go_wp2
      go_ret
      refine ⟨ret_bool ?_, n, rfl⟩
      symm
      rw [noPair_iff geI 0]
      intro i hi
      exact HA.out i (by omega)

set_option maxHeartbeats 1000000 in
theorem differI_any (v : Value) (xs : List Int) (w : World) (hx : Rd w v xs.length 1 (i64s xs)) (hl : xs.length ≤ maxLen) :
    Calls Tryz.prog 141 #[v] w fun e w' => e = .returned (.bool (noPair eqI xs)) ∧ ∃ n, w' = w.drewN n := by
  unfold maxLen at hl
  obtain ⟨A, ca, rfl, hlc, hcm, hA⟩ := hx.form
  clear hx
  go_enter Tryz.func141, Tryz.ntmps141
  go_wp2
  go_loopw [3] (fun i wr => (∃ k : Nat, 1 ≤ k ∧ i = .int .i64 k ∧ (k ≤ xs.length ∨ k = 1) ∧ ∀ t, t + 1 < k → eqI (xs.getD t 0) (xs.getD (t + 1) 0) = false) ∧ ∃ n, wr = w.drewN n) (fun i _ => xs.length - (intOf i).toNat)
  case atStart => exact ⟨⟨1, by omega, rfl, .inr rfl, fun t h => by omega⟩, 0, rfl⟩
  case round =>
    obtain ⟨⟨k, hk1, rfl, hk, hall⟩, n, rfl⟩ := hrel
    have HA := hid hall
    clear hall
    by_cases hlt : k < xs.length
    · obtain ⟨j, rfl⟩ : ∃ j, k = j + 1 := ⟨k - 1, by omega⟩
      obtain ⟨b, o, rfl, hs⟩ := hA (by omega)
      have c1 := hs.int j (by omega)
      have c2 := hs.int (j + 1) hlt
      have HG : Hid (eqI (xs.getD j 0) (xs.getD (j + 1) 0) = false → ∀ t, t + 1 < j + 1 + 1 → eqI (xs.getD t 0) (xs.getD (t + 1) 0) = false) := by
        intro h t ht
        by_cases htk : t = j
        · subst htk; exact h
        · exact HA.out t (by omega)
      have HB : Hid (eqI (xs.getD j 0) (xs.getD (j + 1) 0) = true → noPair eqI xs = false) := by
        intro h
        rw [← Bool.not_eq_true, noPair_iff eqI 0]
        intro hp
        rw [hp j hlt] at h; cases h
      have e1 : ((j + 1 : Nat) : Int) - 1 = (j : Int) := by omega
      have e2 : (((j + 1 : Nat) : Int)).toNat = j + 1 := by omega
      clear hA hs
      generalize xs.getD j 0 = p at *
      generalize xs.getD (j + 1) 0 = q at *
      go_wp2
      go_quiet (fail)
      go_wp2
      · rename_i h
        go_ret
        exact ⟨ret_bool (HB.out (by simpa [eqI] using h)).symm, _, by simp; rfl⟩
      · rename_i h
        go_roundw
        case rel => exact ⟨⟨j + 1 + 1, by omega, by go_num, .inl (by omega), HG.out (by simpa [eqI] using h)⟩, _, rfl⟩
        case measure => simp [intOf]; omega
    · go_wp2
      go_ret
      refine ⟨ret_bool ?_, n, rfl⟩
      symm
      rw [noPair_iff eqI 0]
      intro i hi
      exact HA.out i (by omega)

set_option maxHeartbeats 1000000 in
theorem ascendingS_any (v : Value) (xs : List ByteArray) (w : World) (hx : Rd w v xs.length 1 (strs xs)) (hl : xs.length ≤ maxLen) :
    Calls Tryz.prog 132 #[v] w fun e w' => e = .returned (.bool (noPair geS xs)) ∧ ∃ n, w' = w.drewN n := by
  unfold maxLen at hl
  obtain ⟨A, ca, rfl, hlc, hcm, hA⟩ := hx.form
  clear hx
  go_enter Tryz.func132, Tryz.ntmps132
  go_wp2
  go_loopw [3] (fun i wr => (∃ k : Nat, 1 ≤ k ∧ i = .int .i64 k ∧ (k ≤ xs.length ∨ k = 1) ∧ ∀ t, t + 1 < k → geS (xs.getD t default) (xs.getD (t + 1) default) = false) ∧ ∃ n, wr = w.drewN n) (fun i _ => xs.length - (intOf i).toNat)
  case atStart => exact ⟨⟨1, by omega, rfl, .inr rfl, fun t h => by omega⟩, 0, rfl⟩
  case round =>
    obtain ⟨⟨k, hk1, rfl, hk, hall⟩, n, rfl⟩ := hrel
    have HA := hid hall
    clear hall
    by_cases hlt : k < xs.length
    · obtain ⟨j, rfl⟩ : ∃ j, k = j + 1 := ⟨k - 1, by omega⟩
      obtain ⟨b, o, rfl, hs⟩ := hA (by omega)
      have c1 := hs.str j (by omega)
      have c2 := hs.str (j + 1) hlt
      have HG : Hid (geS (xs.getD j default) (xs.getD (j + 1) default) = false → ∀ t, t + 1 < j + 1 + 1 → geS (xs.getD t default) (xs.getD (t + 1) default) = false) := by
        intro h t ht
        by_cases htk : t = j
        · subst htk; exact h
        · exact HA.out t (by omega)
      have HB : Hid (geS (xs.getD j default) (xs.getD (j + 1) default) = true → noPair geS xs = false) := by
        intro h
        rw [← Bool.not_eq_true, noPair_iff geS default]
        intro hp
        rw [hp j hlt] at h; cases h
      have e1 : ((j + 1 : Nat) : Int) - 1 = (j : Int) := by omega
      have e2 : (((j + 1 : Nat) : Int)).toNat = j + 1 := by omega
      clear hA hs
      generalize xs.getD j default = p at *
      generalize xs.getD (j + 1) default = q at *
      go_wp2
      go_quiet (fail)
      go_wp2
      · rename_i h
        go_ret
        exact ⟨ret_bool (HB.out (by simpa [geS, ltS] using h)).symm, _, by simp; rfl⟩
      · rename_i h
        go_roundw
        case rel => exact ⟨⟨j + 1 + 1, by omega, by go_num, .inl (by omega), HG.out (by simpa [geS, ltS] using h)⟩, _, rfl⟩
        case measure => simp [intOf]; omega
    · go_wp2
      go_ret
      refine ⟨ret_bool ?_, n, rfl⟩
      symm
      rw [noPair_iff geS default]
      intro i hi
      exact HA.out i (by omega)

set_option maxHeartbeats 1000000 in
theorem differS_any (v : Value) (xs : List ByteArray) (w : World) (hx : Rd w v xs.length 1 (strs xs)) (hl : xs.length ≤ maxLen) :
    Calls Tryz.prog 136 #[v] w fun e w' => e = .returned (.bool (noPair eqS xs)) ∧ ∃ n, w' = w.drewN n := by
  unfold maxLen at hl
  obtain ⟨A, ca, rfl, hlc, hcm, hA⟩ := hx.form
  clear hx
  go_enter Tryz.func136, Tryz.ntmps136
  go_wp2
  go_loopw [3] (fun i wr => (∃ k : Nat, 1 ≤ k ∧ i = .int .i64 k ∧ (k ≤ xs.length ∨ k = 1) ∧ ∀ t, t + 1 < k → eqS (xs.getD t default) (xs.getD (t + 1) default) = false) ∧ ∃ n, wr = w.drewN n) (fun i _ => xs.length - (intOf i).toNat)
  case atStart => exact ⟨⟨1, by omega, rfl, .inr rfl, fun t h => by omega⟩, 0, rfl⟩
  case round =>
    obtain ⟨⟨k, hk1, rfl, hk, hall⟩, n, rfl⟩ := hrel
    have HA := hid hall
    clear hall
    by_cases hlt : k < xs.length
    · obtain ⟨j, rfl⟩ : ∃ j, k = j + 1 := ⟨k - 1, by omega⟩
      obtain ⟨b, o, rfl, hs⟩ := hA (by omega)
      have c1 := hs.str j (by omega)
      have c2 := hs.str (j + 1) hlt
      have HG : Hid (eqS (xs.getD j default) (xs.getD (j + 1) default) = false → ∀ t, t + 1 < j + 1 + 1 → eqS (xs.getD t default) (xs.getD (t + 1) default) = false) := by
        intro h t ht
        by_cases htk : t = j
        · subst htk; exact h
        · exact HA.out t (by omega)
      have HB : Hid (eqS (xs.getD j default) (xs.getD (j + 1) default) = true → noPair eqS xs = false) := by
        intro h
        rw [← Bool.not_eq_true, noPair_iff eqS default]
        intro hp
        rw [hp j hlt] at h; cases h
      have e1 : ((j + 1 : Nat) : Int) - 1 = (j : Int) := by omega
      have e2 : (((j + 1 : Nat) : Int)).toNat = j + 1 := by omega
      clear hA hs
      generalize xs.getD j default = p at *
      generalize xs.getD (j + 1) default = q at *
      go_wp2
      go_quiet (fail)
      go_wp2
      · rename_i h
        go_ret
        exact ⟨ret_bool (HB.out (by simpa [eqS] using h)).symm, _, by simp; rfl⟩
      · rename_i h
        go_roundw
        case rel => exact ⟨⟨j + 1 + 1, by omega, by go_num, .inl (by omega), HG.out (by simpa [eqS] using h)⟩, _, rfl⟩
        case measure => simp [intOf]; omega
    · go_wp2
      go_ret
      refine ⟨ret_bool ?_, n, rfl⟩
      symm
      rw [noPair_iff eqS default]
      intro i hi
      exact HA.out i (by omega)
end Go.Proofs.YtdlkdiaobbakiaaGreatDoor
