/- A chunk in memory, and its lane. -/
import Derived.Test.YtdlkdiaobbakiaaGreatDoorCnt
set_option linter.unusedVariables false
set_option linter.unusedSimpArgs false
set_option linter.unnecessarySimpa false
set_option maxRecDepth 20000
namespace Go.Proofs.YtdlkdiaobbakiaaGreatDoor
open Go.RowKit

/-- the cells of a chunk: rows, codec, width, nulls, count, list, ends, base, lanes, kind, nulls before -/
def ck_S (rows codec width : Int) (nulls : Value) (count : Int) (list ends : Value) (base : Int) (lanes kind bef : Value) : List Value :=
  [i64 rows, i64 codec, i64 width, nulls, i64 count, list, ends, i64 base, lanes, kind, bef]
/-- a chunk at block g, by its fields -/
structure CkAt_S (w : World) (g : Nat) (rows codec width : Int) (nulls : Value) (count : Int) (list ends : Value) (base : Int) (lanes kind bef : Value) : Prop where
  row : Row w g 74 (ck_S rows codec width nulls count list ends base lanes kind bef)

set_option maxHeartbeats 1000000 in
theorem lane_S (w : World) (g : Nat) (rows codec : Int) (wd : Nat) (nulls : Value) (count : Int) (list ends : Value) (base : Int) (lanes kind bef : Value) (ws : List Nat) (j : Nat)
    (h : Row w g 74 (ck_S rows codec wd nulls count list ends base lanes kind bef)) (hx : Rd w lanes ws.length 1 (u64s ws)) (hv : ∀ x ∈ ws, x < 18446744073709551616)
    (hw : wd ≤ 64) (hj : j ≤ 65536) (hin : 0 < wd → j / (64 / wd) < ws.length) :
    Calls Tryz.prog 137 #[.pointer (some ⟨g, 0, none⟩), .int .i64 j] w fun e w' => e = .returned (.int .u64 (L.laneOf wd ws j : Nat)) ∧ ∃ n, w' = w.drewN n := by
  have c2 : w.cell? ⟨g, 0 + 2, none⟩ = some (.int .i64 wd) := by rw [h.cell]; rfl
  by_cases h0 : wd = 0
  · subst h0
    go_enter Tryz.func137, Tryz.ntmps137
    go_wp2
    go_ret
    exact ⟨by simp [L.laneOf], 0, rfl⟩
  · obtain ⟨A, ca, rfl, hlc, hcm, hA⟩ := hx.form
    have hlt := hin (by omega)
    obtain ⟨b, o, rfl, hs⟩ := hA (Nat.lt_of_le_of_lt (Nat.zero_le _) hlt)
    have c8 : w.cell? ⟨g, 0 + 8, none⟩ = some (.slice (some ⟨b, o, none⟩) ws.length ca) := by rw [h.cell]; rfl
    have c1 := hs.word _ hlt
    have hvj : ws.getD (j / (64 / wd)) 0 < 18446744073709551616 := hv _ (by simp [List.getD, List.getElem?_eq_getElem hlt])
    have hp := L.per_pos (by omega) hw
    have hp2 : 64 / wd ≤ 64 := Nat.div_le_self 64 wd
    obtain ⟨p, hP⟩ : ∃ p, 64 / wd = p := ⟨_, rfl⟩
    have hPi : (64 : Int) / (wd : Int) = (p : Int) := by rw [← hP]; simp
    rw [hP] at c1 hvj hp hp2 hlt
    have hmul : j % p * wd ≤ 64 := by
      have h1 := L.per_mul wd
      rw [hP] at h1
      exact Nat.le_trans (Nat.mul_le_mul_right wd (Nat.le_of_lt (Nat.mod_lt _ hp))) h1
    obtain ⟨q, hq⟩ : ∃ q, j % p * wd = q := ⟨_, rfl⟩
    have hq' : ((j : Int) % (p : Int)) * (wd : Int) = (q : Int) := by rw [← hq]; simp
    rw [hq] at hmul
    obtain ⟨d, hd⟩ : ∃ d, j / p = d := ⟨_, rfl⟩
    have hd' : (j : Int) / (p : Int) = (d : Int) := by rw [← hd]; simp
    have hdj : d ≤ 65536 := by rw [← hd]; exact Nat.le_trans (Nat.div_le_self _ _) hj
    rw [hd] at c1 hvj hlt
    have HL : Hid (L.laneOf wd ws j = ws.getD d 0 / 2 ^ q % 2 ^ wd) := hid (by unfold L.laneOf; rw [if_neg h0, hP, hd, hq])
    have hne : ¬ (wd : Int) = 0 := by omega
    have hpe : ¬ (p : Int) = 0 := by omega
    clear hA hs hx hv hin hP hq hd h
    generalize ws.getD d 0 = x at *
    have HAND := hid (and_lane x q wd hvj hw)
    generalize hz : 2 ^ wd - 1 = z at *
    have HZ := hid hz
    clear hz
    have hw1 : (wd : Int) ≤ 64 := by omega
    have HSH : Hid (IntKind.u64.wrap (IntKind.u64.wrap (2 ^ wd) - 1) = (z : Int)) := hid (by rw [← HZ.out]; exact low_bits wd hw)
    go_enter Tryz.func137, Tryz.ntmps137
    go_wp2
    rw [hPi, HSH.out]
    go_quiet (fail)
    go_wp2
    go_ret
    exact ⟨ret_u64 (by rw [HAND.out, HL.out]), _, rfl⟩
end Go.Proofs.YtdlkdiaobbakiaaGreatDoor
