/- Package chunk: a value of a frame. -/
import Derived.Test.YtdlkdiaobbakiaaGreatDoorListI
set_option linter.unusedVariables false
set_option linter.unusedSimpArgs false
set_option linter.unnecessarySimpa false
set_option maxRecDepth 100000
namespace Go.Proofs.YtdlkdiaobbakiaaGreatDoor
open Go.RowKit

def val45 (base : Int) (lane : Nat) : Int := IntKind.i64.wrap (base + IntKind.i64.wrap (lane : Int))
theorem ValueRaw_any (x : Int) (w : World) : Calls Tryz.prog 224 #[.agg #[], .agg #[.bool false, .int .i64 x, .string ByteArray.empty]] w fun e w' => e = .returned (.int .i64 x) ∧ Below w.heap.size w w' := IntsValue_any x w
set_option maxHeartbeats 4000000 in
theorem Value45_any (w : World) (g : Nat) (rows : Int) (codec wd : Nat) (nulls : List Nat) (count : Int) (list : List Int) (ends : List Nat) (base : Int) (lanes : List Nat) (j : Nat)
    (h : Ck_I w g rows codec wd nulls count list ends base lanes) (hnv : ∀ x ∈ lanes, x < 18446744073709551616) (hj : j ≤ 65536) (hcd : codec = 4 ∨ codec = 5) (hw : wd ≤ 64) (hin : 0 < wd → j / (64 / wd) < lanes.length) :
    Calls Tryz.prog 108 #[.pointer (some ⟨g, 0, none⟩), .int .i64 j] w fun e w' => e = .returned (.int .i64 (val45 base (L.laneOf wd lanes j))) ∧ Below w.heap.size w w' := by
  obtain ⟨nu, lv, ev, nv, bef, h1, h2, h3, h4, h5, h6⟩ := h.ex
  have c1 : w.cell? ⟨g, 0 + 1, none⟩ = some (.int .i64 codec) := by rw [h1.cell]; rfl
  have c9 : w.cell? ⟨g, 9, none⟩ = some (.iface 46 (.agg #[])) := by rw [h1.cell]; rfl
  have c7 : w.cell? ⟨g, 7, none⟩ = some (.int .i64 base) := by rw [h1.cell]; rfl
  have HLN := hid (fun n : Nat => lane_I (w.drewN n) g rows codec wd nu count lv ev base nv _ bef lanes j (h1.drewN n) (h5.mono (bdrew (brefl w) n)) hnv hw hj hin)
  have hgw : g < w.heap.size := h1.lt
  have e1 : ¬ codec = 1 := by omega
  have e2 : ¬ codec = 2 := by omega
  have e3 : ¬ codec = 3 := by omega
  have ei1 : ((codec : Int) == 1) = false := by simp; omega
  have ei2 : ((codec : Int) == 2) = false := by simp; omega
  have ei3 : ((codec : Int) == 3) = false := by simp; omega
  have hmv := m_Value_I
  unfold val45
  generalize L.laneOf wd lanes j = l at *
  clear h1 h2 h3 h4 h5 h6 h hin hnv
  go_enter Tryz.func108, Tryz.ntmps108
  go_wp2_with fail
  go_region_held3 (fun w' => w'.cell? ⟨g, 9, none⟩ = some (.iface 46 (.agg #[])) ∧ w'.cell? ⟨g, 7, none⟩ = some (.int .i64 base)) (go_keep)
    (first
      | (go_at_call 142; refine (HLN.out 1).mono ?_; rintro e w3 ⟨rfl, n3, rfl⟩; have HB3 := hid (bdrew (bdrew (brefl w) 1) n3); have k9 : ((w.drewN 1).drewN n3).cell? ⟨g, 9, none⟩ = some (.iface 46 (.agg #[])) := c9; have k7 : ((w.drewN 1).drewN n3).cell? ⟨g, 7, none⟩ = some (.int .i64 base) := c7; have hz3 : w.heap.size ≤ ((w.drewN 1).drewN n3).heap.size := HB3.out.size; generalize (w.drewN 1).drewN n3 = w3 at *)
      | (go_at_call 224; refine (ValueRaw_any _ _).mono ?_; rintro e w4 ⟨rfl, hb4⟩; have HB4 := hid (HB3.out.trans (hb4.mono hz3)); have m9 := (hb4.cell (p := ⟨g, 9, none⟩) (Nat.lt_of_lt_of_le hgw hz3)).trans k9; have m7 := (hb4.cell (p := ⟨g, 7, none⟩) (Nat.lt_of_lt_of_le hgw hz3)).trans k7; clear hb4))
  all_goals go_wp2_with fail
  all_goals go_ret
  all_goals exact ⟨rfl, HB4.out⟩
end Go.Proofs.YtdlkdiaobbakiaaGreatDoor
