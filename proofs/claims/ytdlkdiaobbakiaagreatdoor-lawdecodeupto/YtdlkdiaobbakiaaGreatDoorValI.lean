/- Package chunk: a value of a chunk, by its codec. -/
import Derived.Test.YtdlkdiaobbakiaaGreatDoorLaneI
import Derived.Test.YtdlkdiaobbakiaaGreatDoorLan
import Derived.Deep.RegionHeld3
set_option linter.unusedVariables false
set_option linter.unusedSimpArgs false
set_option linter.unnecessarySimpa false
set_option maxRecDepth 100000
namespace Go.Proofs.YtdlkdiaobbakiaaGreatDoor
open Go.RowKit

/-- a chunk in memory that was looked through, with its lists -/
structure Ck_I (w : World) (g : Nat) (rows : Int) (codec wd : Nat) (nulls : List Nat) (count : Int) (list : List Int) (ends : List Nat) (base : Int) (lanes : List Nat) : Prop where
  ex : ∃ nu lv ev nv bef, Row w g 82 (ck_I rows codec wd nu count lv ev base nv (.iface 46 (.agg #[])) bef) ∧ Rd w nu nulls.length 1 (u64s nulls) ∧ Rd w lv list.length 1 (lstI list) ∧
    Rd w ev ends.length 1 (nIs ends) ∧ Rd w nv lanes.length 1 (u64s lanes) ∧ Rd w bef nulls.length 1 (i64s (befL nulls))
theorem Ck_I.mono {w w' : World} {g : Nat} {rows : Int} {codec wd : Nat} {nulls : List Nat} {count : Int} {list : List Int} {ends : List Nat} {base : Int} {lanes : List Nat} (h : Ck_I w g rows codec wd nulls count list ends base lanes) (hb : Below w.heap.size w w') :
    Ck_I w' g rows codec wd nulls count list ends base lanes := by
  obtain ⟨nu, lv, ev, nv, bef, h1, h2, h3, h4, h5, h6⟩ := h.ex
  exact ⟨nu, lv, ev, nv, bef, h1.mono hb, h2.mono hb, h3.mono hb, h4.mono hb, h5.mono hb, h6.mono hb⟩

/-- value number j -/
def val_I (codec wd : Nat) (list : List Int) (ends : List Nat) (lanes : List Nat) (j : Nat) : Int :=
  if codec = 1 then list.getD j dfI else if codec = 2 then list.getD (L.laneOf wd lanes j) dfI else list.getD (firstGe (nI ends) ((j : Int) + 1)) dfI
/-- where it can be asked -/
def ok_I (codec wd : Nat) (list : List Int) (ends : List Nat) (lanes : List Nat) (j : Nat) : Prop :=
  (codec = 1 ∧ j < list.length) ∨ (codec = 2 ∧ L.laneOf wd lanes j < list.length ∧ wd ≤ 64 ∧ (0 < wd → j / (64 / wd) < lanes.length)) ∨
    (codec = 3 ∧ firstGe (nI ends) ((j : Int) + 1) < list.length ∧ ∀ a b, a < b → b < (nI ends).length → (nI ends).getD a 0 < (nI ends).getD b 0)

set_option maxHeartbeats 2000000 in
theorem run_I (w : World) (g : Nat) (rows : Int) (codec wd : Nat) (nulls : List Nat) (count : Int) (list : List Int) (ends : List Nat) (base : Int) (lanes : List Nat) (j : Nat)
    (h : Ck_I w g rows codec wd nulls count list ends base lanes) (hel : ends.length ≤ 1048576) (hj : j ≤ 65536) (hup : ∀ a b, a < b → b < (nI ends).length → (nI ends).getD a 0 < (nI ends).getD b 0) :
    Calls Tryz.prog 143 #[.pointer (some ⟨g, 0, none⟩), .int .i64 j] w fun e w' => e = .returned (.int .i64 (firstGe (nI ends) ((j : Int) + 1) : Nat)) ∧ ∃ n, w' = w.drewN n := by
  obtain ⟨nu, lv, ev, nv, bef, h1, h2, h3, h4, h5, h6⟩ := h.ex
  have HB := hid (BinarySearch_any ev (nI ends) ((j : Int) + 1) w (by rw [nI_length]; exact h4) (by rw [nI_length]; exact hel) hup)
  obtain ⟨A, c, rfl, _, _, _⟩ := h4.form
  have c6 : w.cell? ⟨g, 0 + 6, none⟩ = some (.slice A ends.length c) := by rw [h1.cell]; rfl
  clear h1 h2 h3 h4 h5 h6 h hup
  generalize firstGe (nI ends) ((j : Int) + 1) = r at *
  go_enter Tryz.func143, Tryz.ntmps143
  go_wp2_with fail
  refine HB.out.mono ?_
  rintro e w1 ⟨⟨b, rfl⟩, n, rfl⟩
  go_wp2_with fail
  go_ret
  exact ⟨rfl, n, rfl⟩

set_option maxHeartbeats 4000000 in
theorem Value123_I (w : World) (g : Nat) (rows : Int) (codec wd : Nat) (nulls : List Nat) (count : Int) (list : List Int) (ends : List Nat) (base : Int) (lanes : List Nat) (j : Nat)
    (h : Ck_I w g rows codec wd nulls count list ends base lanes) (hel : ends.length ≤ 1048576) (hll : list.length ≤ 1048576) (hnv : ∀ x ∈ lanes, x < 18446744073709551616) (hj : j ≤ 65536) (hok : ok_I codec wd list ends lanes j) :
    Calls Tryz.prog 108 #[.pointer (some ⟨g, 0, none⟩), .int .i64 j] w fun e w' => e = .returned (vI (val_I codec wd list ends lanes j)) ∧ Below w.heap.size w w' := by
  obtain ⟨nu, lv, ev, nv, bef, h1, h2, h3, h4, h5, h6⟩ := h.ex
  obtain ⟨A, c, rfl, hlc, hcm, hA⟩ := h3.form
  have c1 : w.cell? ⟨g, 0 + 1, none⟩ = some (.int .i64 codec) := by rw [h1.cell]; rfl
  have c5 : w.cell? ⟨g, 0 + 5, none⟩ = some (.slice A list.length c) := by rw [h1.cell]; rfl
  have c5' : w.cell? ⟨g, 5, none⟩ = some (.slice A list.length c) := by rw [h1.cell]; rfl
  rcases hok with ⟨rfl, hlt⟩ | ⟨rfl, hlt, hw, hin⟩ | ⟨rfl, hlt, hup⟩
  · obtain ⟨b, o, rfl, hs⟩ := hA (by omega)
    have d1 : w.cell? ⟨b, o + j, none⟩ = some (vI (list.getD j dfI)) := hs _ _ (lstI_get list j hlt)
    have hv : val_I 1 wd list ends lanes j = list.getD j dfI := by unfold val_I; rw [if_pos rfl]
    rw [hv]
    unfold vI at d1 ⊢
    clear h1 h2 h3 h4 h5 h6 h hs hA c5' hv
    generalize list.getD j dfI = x at *
    go_enter Tryz.func108, Tryz.ntmps108
    go_wp2
    go_ret
    exact ⟨rfl, brefl w⟩
  · have hv : val_I 2 wd list ends lanes j = list.getD (L.laneOf wd lanes j) dfI := by unfold val_I; rw [if_neg (by omega), if_pos rfl]
    rw [hv]
    have HLN := hid (fun n : Nat => lane_I (w.drewN n) g rows (2 : Nat) wd nu count (.slice A list.length c) ev base nv _ bef lanes j (h1.drewN n) (h5.mono (bdrew (brefl w) n)) hnv hw hj hin)
    generalize L.laneOf wd lanes j = r at *
    obtain ⟨b, o, rfl, hs⟩ := hA (Nat.lt_of_le_of_lt (Nat.zero_le _) hlt)
    have d1 : w.cell? ⟨b, o + r, none⟩ = some (vI (list.getD r dfI)) := hs _ _ (lstI_get list r hlt)
    unfold vI at d1 ⊢
    have hri : (r : Int) < (list.length : Int) := by omega
    clear h1 h2 h3 h4 h5 h6 h hs hA hv hin c5
    generalize list.getD r dfI = x at *
    go_enter Tryz.func108, Tryz.ntmps108
    go_wp2_with fail
    go_quiet (first | (go_at_call 142; refine Calls.quiet_of (HLN.out _)))
    go_wp2_with fail
    go_ret
    exact ⟨rfl, bdrew (brefl w) _⟩
  · have hv : val_I 3 wd list ends lanes j = list.getD (firstGe (nI ends) ((j : Int) + 1)) dfI := by unfold val_I; rw [if_neg (by omega), if_neg (by omega)]
    rw [hv]
    have HRN := hid (fun n : Nat => run_I (w.drewN n) g rows 3 wd nulls count list ends base lanes j (h.mono (bdrew (brefl w) n)) hel hj hup)
    generalize firstGe (nI ends) ((j : Int) + 1) = r at *
    obtain ⟨b, o, rfl, hs⟩ := hA (Nat.lt_of_le_of_lt (Nat.zero_le _) hlt)
    have d1 : w.cell? ⟨b, o + r, none⟩ = some (vI (list.getD r dfI)) := hs _ _ (lstI_get list r hlt)
    unfold vI at d1 ⊢
    have hri : (r : Int) < (list.length : Int) := by omega
    clear h1 h2 h3 h4 h5 h6 h hs hA hv hup c5
    generalize list.getD r dfI = x at *
    go_enter Tryz.func108, Tryz.ntmps108
    go_wp2_with fail
    go_quiet (first | (go_at_call 143; refine Calls.quiet_of (HRN.out _)))
    go_wp2_with fail
    go_ret
    exact ⟨rfl, bdrew (brefl w) _⟩
end Go.Proofs.YtdlkdiaobbakiaaGreatDoor
