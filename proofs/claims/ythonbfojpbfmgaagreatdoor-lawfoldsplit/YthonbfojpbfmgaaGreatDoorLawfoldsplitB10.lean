/- Package chunk: the number of a row's value. -/
import Derived.Test.YthonbfojpbfmgaaGreatDoorLawfoldsplitB9
import Derived.Test.YthonbfojpbfmgaaGreatDoorLawfoldsplitB7
import Derived.Deep.CutRange
import Derived.Deep.RegionHeld3
import Derived.Test.YthonbfojpbfmgaaGreatDoorLawfoldsplitB5
import Derived.Test.YthonbfojpbfmgaaGreatDoorLawfoldsplitB6
set_option linter.unusedVariables false
set_option linter.unusedSimpArgs false
set_option linter.unnecessarySimpa false
set_option maxRecDepth 100000
namespace Go.Proofs.YthonbfojpbfmgaaGreatDoor
open Go.RowKit

set_option maxHeartbeats 4000000 in
theorem number_I (w : World) (g : Nat) (rows codec wd : Nat) (nulls : List Nat) (count : Int) (list : List Int) (ends : List Nat) (base : Int) (lanes : List Nat) (r : Nat)
    (h : Ck_I w g rows codec wd nulls count list ends base lanes) (hbm : nulls.length = (rows + 63) / 64) (hnv : ∀ x ∈ nulls, x < 18446744073709551616) (hrr : rows ≤ 65536) (hr : r < rows) :
    Calls Tryz.prog 171 #[.pointer (some ⟨g, 0, none⟩), .int .i64 r] w fun e w' => e = .returned (.int .i64 ((r : Int) - (rankN nulls (r + 1) : Nat))) ∧ Below w.heap.size w w' := by
  obtain ⟨nu, lv, ev, nv, bef, h1, h2, h3, h4, h5, h6⟩ := h.ex
  obtain ⟨A, ca, rfl, hlc, hcm, hA⟩ := h2.form
  obtain ⟨A', ca', rfl, hlc', hcm', hA'⟩ := h6.form
  obtain ⟨q, hq⟩ : ∃ q, r / 64 = q := ⟨_, rfl⟩
  obtain ⟨b, hb⟩ : ∃ b, r % 64 = b := ⟨_, rfl⟩
  have hq' : (r : Int) / 64 = (q : Int) := by omega
  have hb' : (r : Int) % 64 = (b : Int) := by omega
  have hqn : q < nulls.length := by omega
  have hb64 : b < 64 := by omega
  obtain ⟨bl, o, rfl, hs⟩ := hA (by omega)
  obtain ⟨bl', o', rfl, hs'⟩ := hA' (by omega)
  have c3 : w.cell? ⟨g, 3, none⟩ = some (.slice (some ⟨bl, o, none⟩) nulls.length ca) := by rw [h1.cell]; rfl
  have c10 : w.cell? ⟨g, 10, none⟩ = some (.slice (some ⟨bl', o', none⟩) nulls.length ca') := by rw [h1.cell]; rfl
  have d1 := hs.word q hqn
  have d2 : w.cell? ⟨bl', o' + q, none⟩ = some (.int .i64 (popL (nulls.take q) : Nat)) := by
    have := hs' q _ (i64s_get (befL nulls) q (by rw [befL_length]; exact hqn))
    rwa [befL_get _ _ hqn] at this
  have hxq : nulls.getD q 0 < 18446744073709551616 := hnv _ (by simp [List.getD, List.getElem?_eq_getElem hqn])
  have hrk := rank_upto nulls r (by rw [hq]; exact hqn)
  rw [hq, hb] at hrk
  have hpl := popL_le (nulls.take q)
  rw [List.length_take] at hpl
  have hle : rankN nulls (r + 1) ≤ r + 1 := by unfold rankN; have := List.length_filter_le (bitOf nulls) (List.range (r + 1)); rwa [List.length_range] at this
  generalize rankN nulls (r + 1) = rk at *
  have HON := hid (fun w2 : World => onesCount_any (nulls.getD q 0 * 2 ^ (63 - b) % 18446744073709551616) w2 (Nat.mod_lt _ (by omega)))
  generalize hp1 : popL (nulls.take q) = p1 at *
  generalize hp2 : L.popN 64 (nulls.getD q 0 * 2 ^ (63 - b) % 18446744073709551616) = p2 at *
  generalize nulls.getD q 0 = y at *
  obtain ⟨z, hz⟩ : ∃ z, y * 2 ^ (63 - b) % 18446744073709551616 = z := ⟨_, rfl⟩
  have hsh : IntKind.u64.wrap ((y : Int) * 2 ^ (63 - b)) = (z : Int) := by rw [IntKind.wrap_u64, ← hz]; simp
  rw [hz] at HON hp2
  have hsb : (63 : Int) - (b : Int) = ((63 - b : Nat) : Int) := by omega
  have hp1b : p1 ≤ 4194304 := by omega
  have HLE := hid hle
  have hp12 : (r : Int) - (p1 : Int) - (p2 : Int) = (r : Int) - (rk : Int) := by omega
  clear hle hpl hrk hbm h1 h2 h3 h4 h5 h6 hs hs' hA hA' hnv h hp1 hp2 hz hq hb
  go_enter Tryz.func171, Tryz.ntmps171
  go_wp2
  go_quiet (first | (go_at_call 117; refine Calls.quiet_of_same (HON.out _)))
  go_wp2_with fail
  go_ret
  exact ⟨ret_i64 (by have := HLE.out; unfold wrap64; omega), bdrew (brefl w) _⟩
end Go.Proofs.YthonbfojpbfmgaaGreatDoor

/- Package chunk: the cell of a row. -/
set_option linter.unusedVariables false
set_option linter.unusedSimpArgs false
set_option linter.unnecessarySimpa false
set_option maxRecDepth 100000
namespace Go.Proofs.YthonbfojpbfmgaaGreatDoor
open Go.RowKit

end Go.Proofs.YthonbfojpbfmgaaGreatDoor

/- Package chunk: lists of cells. -/
set_option linter.unusedVariables false
set_option linter.unusedSimpArgs false
set_option linter.unnecessarySimpa false
set_option maxRecDepth 100000
namespace Go.Proofs.YthonbfojpbfmgaaGreatDoor
open Go.RowKit

end Go.Proofs.YthonbfojpbfmgaaGreatDoor

/- Package chunk: a value of a frame. -/
set_option linter.unusedVariables false
set_option linter.unusedSimpArgs false
set_option linter.unnecessarySimpa false
set_option maxRecDepth 100000
namespace Go.Proofs.YthonbfojpbfmgaaGreatDoor
open Go.RowKit

def val45 (base : Int) (lane : Nat) : Int := IntKind.i64.wrap (base + IntKind.i64.wrap (lane : Int))
theorem ValueRaw_any (x : Int) (w : World) : Calls Tryz.prog 273 #[.agg #[], .agg #[.bool false, .int .i64 x, .string ByteArray.empty]] w fun e w' => e = .returned (.int .i64 x) ∧ Below w.heap.size w w' := IntsValue_any x w
set_option maxHeartbeats 4000000 in
theorem Value45_any (w : World) (g : Nat) (rows : Int) (codec wd : Nat) (nulls : List Nat) (count : Int) (list : List Int) (ends : List Nat) (base : Int) (lanes : List Nat) (j : Nat)
    (h : Ck_I w g rows codec wd nulls count list ends base lanes) (hnv : ∀ x ∈ lanes, x < 18446744073709551616) (hj : j ≤ 65536) (hcd : codec = 4 ∨ codec = 5) (hw : wd ≤ 64) (hin : 0 < wd → j / (64 / wd) < lanes.length) :
    Calls Tryz.prog 130 #[.pointer (some ⟨g, 0, none⟩), .int .i64 j] w fun e w' => e = .returned (.int .i64 (val45 base (L.laneOf wd lanes j))) ∧ Below w.heap.size w w' := by
  obtain ⟨nu, lv, ev, nv, bef, h1, h2, h3, h4, h5, h6⟩ := h.ex
  have c1 : w.cell? ⟨g, 0 + 1, none⟩ = some (.int .i64 codec) := by rw [h1.cell]; rfl
  have c9 : w.cell? ⟨g, 9, none⟩ = some (.iface 68 (.agg #[])) := by rw [h1.cell]; rfl
  have c7 : w.cell? ⟨g, 7, none⟩ = some (.int .i64 base) := by rw [h1.cell]; rfl
  have HLN := hid (fun n : Nat => lane_I (w.drewN n) g rows codec wd nu count lv ev base nv _ bef lanes j (h1.drewN n) (h5.mono (bdrew (brefl w) n)) hnv hw hj hin)
  have hgw : g < w.heap.size := h1.lt
  have e1 : ¬ codec = 1 := by omega
  have e2 : ¬ codec = 2 := by omega
  have e3 : ¬ codec = 3 := by omega
  have ei1 : ((codec : Int) == 1) = false := by simp; omega
  have ei2 : ((codec : Int) == 2) = false := by simp; omega
  have ei3 : ((codec : Int) == 3) = false := by simp; omega
  have hmv := m_Value_I
  unfold val45
  generalize L.laneOf wd lanes j = l at *
  clear h1 h2 h3 h4 h5 h6 h hin hnv
  go_enter Tryz.func130, Tryz.ntmps130
  go_wp2_with fail
  go_region_held3 (fun w' => w'.cell? ⟨g, 9, none⟩ = some (.iface 68 (.agg #[])) ∧ w'.cell? ⟨g, 7, none⟩ = some (.int .i64 base)) (go_keep)
    (first
      | (go_at_call 169; refine (HLN.out 1).mono ?_; rintro e w3 ⟨rfl, n3, rfl⟩; have HB3 := hid (bdrew (bdrew (brefl w) 1) n3); have k9 : ((w.drewN 1).drewN n3).cell? ⟨g, 9, none⟩ = some (.iface 68 (.agg #[])) := c9; have k7 : ((w.drewN 1).drewN n3).cell? ⟨g, 7, none⟩ = some (.int .i64 base) := c7; have hz3 : w.heap.size ≤ ((w.drewN 1).drewN n3).heap.size := HB3.out.size; generalize (w.drewN 1).drewN n3 = w3 at *)
      | (go_at_call 273; refine (ValueRaw_any _ _).mono ?_; rintro e w4 ⟨rfl, hb4⟩; have HB4 := hid (HB3.out.trans (hb4.mono hz3)); have m9 := (hb4.cell (p := ⟨g, 9, none⟩) (Nat.lt_of_lt_of_le hgw hz3)).trans k9; have m7 := (hb4.cell (p := ⟨g, 7, none⟩) (Nat.lt_of_lt_of_le hgw hz3)).trans k7; clear hb4))
  all_goals go_wp2_with fail
  all_goals go_ret
  all_goals exact ⟨rfl, HB4.out⟩
end Go.Proofs.YthonbfojpbfmgaaGreatDoor

/- A chunk in memory, and its lane. -/
set_option linter.unusedVariables false
set_option linter.unusedSimpArgs false
set_option linter.unnecessarySimpa false
set_option maxRecDepth 20000
namespace Go.Proofs.YthonbfojpbfmgaaGreatDoor
open Go.RowKit

/-- the cells of a chunk: rows, codec, width, nulls, count, list, ends, base, lanes, kind, nulls before -/
def ck_S (rows codec width : Int) (nulls : Value) (count : Int) (list ends : Value) (base : Int) (lanes kind bef : Value) : List Value :=
  [i64 rows, i64 codec, i64 width, nulls, i64 count, list, ends, i64 base, lanes, kind, bef]
/-- a chunk at block g, by its fields -/
structure CkAt_S (w : World) (g : Nat) (rows codec width : Int) (nulls : Value) (count : Int) (list ends : Value) (base : Int) (lanes kind bef : Value) : Prop where
  row : Row w g 94 (ck_S rows codec width nulls count list ends base lanes kind bef)

set_option maxHeartbeats 1000000 in
theorem lane_S (w : World) (g : Nat) (rows codec : Int) (wd : Nat) (nulls : Value) (count : Int) (list ends : Value) (base : Int) (lanes kind bef : Value) (ws : List Nat) (j : Nat)
    (h : Row w g 94 (ck_S rows codec wd nulls count list ends base lanes kind bef)) (hx : Rd w lanes ws.length 1 (u64s ws)) (hv : ∀ x ∈ ws, x < 18446744073709551616)
    (hw : wd ≤ 64) (hj : j ≤ 65536) (hin : 0 < wd → j / (64 / wd) < ws.length) :
    Calls Tryz.prog 165 #[.pointer (some ⟨g, 0, none⟩), .int .i64 j] w fun e w' => e = .returned (.int .u64 (L.laneOf wd ws j : Nat)) ∧ ∃ n, w' = w.drewN n := by
  have c2 : w.cell? ⟨g, 0 + 2, none⟩ = some (.int .i64 wd) := by rw [h.cell]; rfl
  by_cases h0 : wd = 0
  · subst h0
    go_enter Tryz.func165, Tryz.ntmps165
    go_wp2
    go_ret
    exact ⟨by simp [L.laneOf], 0, rfl⟩
  · obtain ⟨A, ca, rfl, hlc, hcm, hA⟩ := hx.form
    have hlt := hin (by omega)
    obtain ⟨b, o, rfl, hs⟩ := hA (Nat.lt_of_le_of_lt (Nat.zero_le _) hlt)
    have c8 : w.cell? ⟨g, 0 + 8, none⟩ = some (.slice (some ⟨b, o, none⟩) ws.length ca) := by rw [h.cell]; rfl
    have c1 := hs.word _ hlt
    have hvj : ws.getD (j / (64 / wd)) 0 < 18446744073709551616 := hv _ (by simp [List.getD, List.getElem?_eq_getElem hlt])
    have hp := L.per_pos (by omega) hw
    have hp2 : 64 / wd ≤ 64 := Nat.div_le_self 64 wd
    obtain ⟨p, hP⟩ : ∃ p, 64 / wd = p := ⟨_, rfl⟩
    have hPi : (64 : Int) / (wd : Int) = (p : Int) := by rw [← hP]; simp
    rw [hP] at c1 hvj hp hp2 hlt
    have hmul : j % p * wd ≤ 64 := by
      have h1 := L.per_mul wd
      rw [hP] at h1
      exact Nat.le_trans (Nat.mul_le_mul_right wd (Nat.le_of_lt (Nat.mod_lt _ hp))) h1
    obtain ⟨q, hq⟩ : ∃ q, j % p * wd = q := ⟨_, rfl⟩
    have hq' : ((j : Int) % (p : Int)) * (wd : Int) = (q : Int) := by rw [← hq]; simp
    rw [hq] at hmul
    obtain ⟨d, hd⟩ : ∃ d, j / p = d := ⟨_, rfl⟩
    have hd' : (j : Int) / (p : Int) = (d : Int) := by rw [← hd]; simp
    have hdj : d ≤ 65536 := by rw [← hd]; exact Nat.le_trans (Nat.div_le_self _ _) hj
    rw [hd] at c1 hvj hlt
    have HL : Hid (L.laneOf wd ws j = ws.getD d 0 / 2 ^ q % 2 ^ wd) := hid (by unfold L.laneOf; rw [if_neg h0, hP, hd, hq])
    have hne : ¬ (wd : Int) = 0 := by omega
    have hpe : ¬ (p : Int) = 0 := by omega
    clear hA hs hx hv hin hP hq hd h
    generalize ws.getD d 0 = x at *
    have HAND := hid (and_lane x q wd hvj hw)
    generalize hz : 2 ^ wd - 1 = z at *
    have HZ := hid hz
    clear hz
    have hw1 : (wd : Int) ≤ 64 := by omega
    have HSH : Hid (IntKind.u64.wrap (IntKind.u64.wrap (2 ^ wd) - 1) = (z : Int)) := hid (by rw [← HZ.out]; exact low_bits wd hw)
    go_enter Tryz.func165, Tryz.ntmps165
    go_wp2
    rw [hPi, HSH.out]
    go_quiet (fail)
    go_wp2
    go_ret
    exact ⟨ret_u64 (by rw [HAND.out, HL.out]), _, rfl⟩
end Go.Proofs.YthonbfojpbfmgaaGreatDoor

/- Package chunk: a value of a chunk, by its codec. -/
set_option linter.unusedVariables false
set_option linter.unusedSimpArgs false
set_option linter.unnecessarySimpa false
set_option maxRecDepth 100000
namespace Go.Proofs.YthonbfojpbfmgaaGreatDoor
open Go.RowKit

/-- a chunk in memory that was looked through, with its lists -/
structure Ck_S (w : World) (g : Nat) (rows : Int) (codec wd : Nat) (nulls : List Nat) (count : Int) (list : List ByteArray) (ends : List Nat) (base : Int) (lanes : List Nat) : Prop where
  ex : ∃ nu lv ev nv bef, Row w g 94 (ck_S rows codec wd nu count lv ev base nv (.iface 66 (.agg #[])) bef) ∧ Rd w nu nulls.length 1 (u64s nulls) ∧ Rd w lv list.length 1 (lstS list) ∧
    Rd w ev ends.length 1 (nIs ends) ∧ Rd w nv lanes.length 1 (u64s lanes) ∧ Rd w bef nulls.length 1 (i64s (befL nulls))
theorem Ck_S.mono {w w' : World} {g : Nat} {rows : Int} {codec wd : Nat} {nulls : List Nat} {count : Int} {list : List ByteArray} {ends : List Nat} {base : Int} {lanes : List Nat} (h : Ck_S w g rows codec wd nulls count list ends base lanes) (hb : Below w.heap.size w w') :
    Ck_S w' g rows codec wd nulls count list ends base lanes := by
  obtain ⟨nu, lv, ev, nv, bef, h1, h2, h3, h4, h5, h6⟩ := h.ex
  exact ⟨nu, lv, ev, nv, bef, h1.mono hb, h2.mono hb, h3.mono hb, h4.mono hb, h5.mono hb, h6.mono hb⟩

/-- value number j -/
def val_S (codec wd : Nat) (list : List ByteArray) (ends : List Nat) (lanes : List Nat) (j : Nat) : ByteArray :=
  if codec = 1 then list.getD j dfS else if codec = 2 then list.getD (L.laneOf wd lanes j) dfS else list.getD (firstGe (nI ends) ((j : Int) + 1)) dfS
/-- where it can be asked -/
def ok_S (codec wd : Nat) (list : List ByteArray) (ends : List Nat) (lanes : List Nat) (j : Nat) : Prop :=
  (codec = 1 ∧ j < list.length) ∨ (codec = 2 ∧ L.laneOf wd lanes j < list.length ∧ wd ≤ 64 ∧ (0 < wd → j / (64 / wd) < lanes.length)) ∨
    (codec = 3 ∧ firstGe (nI ends) ((j : Int) + 1) < list.length ∧ ∀ a b, a < b → b < (nI ends).length → (nI ends).getD a 0 < (nI ends).getD b 0)

set_option maxHeartbeats 2000000 in
theorem run_S (w : World) (g : Nat) (rows : Int) (codec wd : Nat) (nulls : List Nat) (count : Int) (list : List ByteArray) (ends : List Nat) (base : Int) (lanes : List Nat) (j : Nat)
    (h : Ck_S w g rows codec wd nulls count list ends base lanes) (hel : ends.length ≤ 16777216) (hj : j ≤ 65536) (hup : ∀ a b, a < b → b < (nI ends).length → (nI ends).getD a 0 < (nI ends).getD b 0) :
    Calls Tryz.prog 168 #[.pointer (some ⟨g, 0, none⟩), .int .i64 j] w fun e w' => e = .returned (.int .i64 (firstGe (nI ends) ((j : Int) + 1) : Nat)) ∧ ∃ n, w' = w.drewN n := by
  obtain ⟨nu, lv, ev, nv, bef, h1, h2, h3, h4, h5, h6⟩ := h.ex
  have HB := hid (BinarySearch_any ev (nI ends) ((j : Int) + 1) w (by rw [nI_length]; exact h4) (by rw [nI_length]; exact hel) hup)
  obtain ⟨A, c, rfl, _, _, _⟩ := h4.form
  have c6 : w.cell? ⟨g, 0 + 6, none⟩ = some (.slice A ends.length c) := by rw [h1.cell]; rfl
  clear h1 h2 h3 h4 h5 h6 h hup
  generalize firstGe (nI ends) ((j : Int) + 1) = r at *
  go_enter Tryz.func168, Tryz.ntmps168
  go_wp2_with fail
  refine HB.out.mono ?_
  rintro e w1 ⟨⟨b, rfl⟩, n, rfl⟩
  go_wp2_with fail
  go_ret
  exact ⟨rfl, n, rfl⟩

set_option maxHeartbeats 4000000 in
theorem Value123_S (w : World) (g : Nat) (rows : Int) (codec wd : Nat) (nulls : List Nat) (count : Int) (list : List ByteArray) (ends : List Nat) (base : Int) (lanes : List Nat) (j : Nat)
    (h : Ck_S w g rows codec wd nulls count list ends base lanes) (hel : ends.length ≤ 16777216) (hll : list.length ≤ 16777216) (hnv : ∀ x ∈ lanes, x < 18446744073709551616) (hj : j ≤ 65536) (hok : ok_S codec wd list ends lanes j) :
    Calls Tryz.prog 123 #[.pointer (some ⟨g, 0, none⟩), .int .i64 j] w fun e w' => e = .returned (vS (val_S codec wd list ends lanes j)) ∧ Below w.heap.size w w' := by
  obtain ⟨nu, lv, ev, nv, bef, h1, h2, h3, h4, h5, h6⟩ := h.ex
  obtain ⟨A, c, rfl, hlc, hcm, hA⟩ := h3.form
  have c1 : w.cell? ⟨g, 0 + 1, none⟩ = some (.int .i64 codec) := by rw [h1.cell]; rfl
  have c5 : w.cell? ⟨g, 0 + 5, none⟩ = some (.slice A list.length c) := by rw [h1.cell]; rfl
  have c5' : w.cell? ⟨g, 5, none⟩ = some (.slice A list.length c) := by rw [h1.cell]; rfl
  rcases hok with ⟨rfl, hlt⟩ | ⟨rfl, hlt, hw, hin⟩ | ⟨rfl, hlt, hup⟩
  · obtain ⟨b, o, rfl, hs⟩ := hA (by omega)
    have d1 : w.cell? ⟨b, o + j, none⟩ = some (vS (list.getD j dfS)) := hs _ _ (lstS_get list j hlt)
    have hv : val_S 1 wd list ends lanes j = list.getD j dfS := by unfold val_S; rw [if_pos rfl]
    rw [hv]
    unfold vS at d1 ⊢
    clear h1 h2 h3 h4 h5 h6 h hs hA c5' hv
    generalize list.getD j dfS = x at *
    go_enter Tryz.func123, Tryz.ntmps123
    go_wp2
    go_ret
    exact ⟨rfl, brefl w⟩
  · have hv : val_S 2 wd list ends lanes j = list.getD (L.laneOf wd lanes j) dfS := by unfold val_S; rw [if_neg (by omega), if_pos rfl]
    rw [hv]
    have HLN := hid (fun n : Nat => lane_S (w.drewN n) g rows (2 : Nat) wd nu count (.slice A list.length c) ev base nv _ bef lanes j (h1.drewN n) (h5.mono (bdrew (brefl w) n)) hnv hw hj hin)
    generalize L.laneOf wd lanes j = r at *
    obtain ⟨b, o, rfl, hs⟩ := hA (Nat.lt_of_le_of_lt (Nat.zero_le _) hlt)
    have d1 : w.cell? ⟨b, o + r, none⟩ = some (vS (list.getD r dfS)) := hs _ _ (lstS_get list r hlt)
    unfold vS at d1 ⊢
    have hri : (r : Int) < (list.length : Int) := by omega
    clear h1 h2 h3 h4 h5 h6 h hs hA hv hin c5
    generalize list.getD r dfS = x at *
    go_enter Tryz.func123, Tryz.ntmps123
    go_wp2_with fail
    go_quiet (first | (go_at_call 165; refine Calls.quiet_of (HLN.out _)))
    go_wp2_with fail
    go_ret
    exact ⟨rfl, bdrew (brefl w) _⟩
  · have hv : val_S 3 wd list ends lanes j = list.getD (firstGe (nI ends) ((j : Int) + 1)) dfS := by unfold val_S; rw [if_neg (by omega), if_neg (by omega)]
    rw [hv]
    have HRN := hid (fun n : Nat => run_S (w.drewN n) g rows 3 wd nulls count list ends base lanes j (h.mono (bdrew (brefl w) n)) hel hj hup)
    generalize firstGe (nI ends) ((j : Int) + 1) = r at *
    obtain ⟨b, o, rfl, hs⟩ := hA (Nat.lt_of_le_of_lt (Nat.zero_le _) hlt)
    have d1 : w.cell? ⟨b, o + r, none⟩ = some (vS (list.getD r dfS)) := hs _ _ (lstS_get list r hlt)
    unfold vS at d1 ⊢
    have hri : (r : Int) < (list.length : Int) := by omega
    clear h1 h2 h3 h4 h5 h6 h hs hA hv hup c5
    generalize list.getD r dfS = x at *
    go_enter Tryz.func123, Tryz.ntmps123
    go_wp2_with fail
    go_quiet (first | (go_at_call 168; refine Calls.quiet_of (HRN.out _)))
    go_wp2_with fail
    go_ret
    exact ⟨rfl, bdrew (brefl w) _⟩
end Go.Proofs.YthonbfojpbfmgaaGreatDoor

/- Package chunk: the number of a row's value. -/
set_option linter.unusedVariables false
set_option linter.unusedSimpArgs false
set_option linter.unnecessarySimpa false
set_option maxRecDepth 100000
namespace Go.Proofs.YthonbfojpbfmgaaGreatDoor
open Go.RowKit

set_option maxHeartbeats 4000000 in
theorem number_S (w : World) (g : Nat) (rows codec wd : Nat) (nulls : List Nat) (count : Int) (list : List ByteArray) (ends : List Nat) (base : Int) (lanes : List Nat) (r : Nat)
    (h : Ck_S w g rows codec wd nulls count list ends base lanes) (hbm : nulls.length = (rows + 63) / 64) (hnv : ∀ x ∈ nulls, x < 18446744073709551616) (hrr : rows ≤ 65536) (hr : r < rows) :
    Calls Tryz.prog 167 #[.pointer (some ⟨g, 0, none⟩), .int .i64 r] w fun e w' => e = .returned (.int .i64 ((r : Int) - (rankN nulls (r + 1) : Nat))) ∧ Below w.heap.size w w' := by
  obtain ⟨nu, lv, ev, nv, bef, h1, h2, h3, h4, h5, h6⟩ := h.ex
  obtain ⟨A, ca, rfl, hlc, hcm, hA⟩ := h2.form
  obtain ⟨A', ca', rfl, hlc', hcm', hA'⟩ := h6.form
  obtain ⟨q, hq⟩ : ∃ q, r / 64 = q := ⟨_, rfl⟩
  obtain ⟨b, hb⟩ : ∃ b, r % 64 = b := ⟨_, rfl⟩
  have hq' : (r : Int) / 64 = (q : Int) := by omega
  have hb' : (r : Int) % 64 = (b : Int) := by omega
  have hqn : q < nulls.length := by omega
  have hb64 : b < 64 := by omega
  obtain ⟨bl, o, rfl, hs⟩ := hA (by omega)
  obtain ⟨bl', o', rfl, hs'⟩ := hA' (by omega)
  have c3 : w.cell? ⟨g, 3, none⟩ = some (.slice (some ⟨bl, o, none⟩) nulls.length ca) := by rw [h1.cell]; rfl
  have c10 : w.cell? ⟨g, 10, none⟩ = some (.slice (some ⟨bl', o', none⟩) nulls.length ca') := by rw [h1.cell]; rfl
  have d1 := hs.word q hqn
  have d2 : w.cell? ⟨bl', o' + q, none⟩ = some (.int .i64 (popL (nulls.take q) : Nat)) := by
    have := hs' q _ (i64s_get (befL nulls) q (by rw [befL_length]; exact hqn))
    rwa [befL_get _ _ hqn] at this
  have hxq : nulls.getD q 0 < 18446744073709551616 := hnv _ (by simp [List.getD, List.getElem?_eq_getElem hqn])
  have hrk := rank_upto nulls r (by rw [hq]; exact hqn)
  rw [hq, hb] at hrk
  have hpl := popL_le (nulls.take q)
  rw [List.length_take] at hpl
  have hle : rankN nulls (r + 1) ≤ r + 1 := by unfold rankN; have := List.length_filter_le (bitOf nulls) (List.range (r + 1)); rwa [List.length_range] at this
  generalize rankN nulls (r + 1) = rk at *
  have HON := hid (fun w2 : World => onesCount_any (nulls.getD q 0 * 2 ^ (63 - b) % 18446744073709551616) w2 (Nat.mod_lt _ (by omega)))
  generalize hp1 : popL (nulls.take q) = p1 at *
  generalize hp2 : L.popN 64 (nulls.getD q 0 * 2 ^ (63 - b) % 18446744073709551616) = p2 at *
  generalize nulls.getD q 0 = y at *
  obtain ⟨z, hz⟩ : ∃ z, y * 2 ^ (63 - b) % 18446744073709551616 = z := ⟨_, rfl⟩
  have hsh : IntKind.u64.wrap ((y : Int) * 2 ^ (63 - b)) = (z : Int) := by rw [IntKind.wrap_u64, ← hz]; simp
  rw [hz] at HON hp2
  have hsb : (63 : Int) - (b : Int) = ((63 - b : Nat) : Int) := by omega
  have hp1b : p1 ≤ 4194304 := by omega
  have HLE := hid hle
  have hp12 : (r : Int) - (p1 : Int) - (p2 : Int) = (r : Int) - (rk : Int) := by omega
  clear hle hpl hrk hbm h1 h2 h3 h4 h5 h6 hs hs' hA hA' hnv h hp1 hp2 hz hq hb
  go_enter Tryz.func167, Tryz.ntmps167
  go_wp2
  go_quiet (first | (go_at_call 117; refine Calls.quiet_of_same (HON.out _)))
  go_wp2_with fail
  go_ret
  exact ⟨ret_i64 (by have := HLE.out; unfold wrap64; omega), bdrew (brefl w) _⟩
end Go.Proofs.YthonbfojpbfmgaaGreatDoor

/- Package chunk: the cell of a row. -/
set_option linter.unusedVariables false
set_option linter.unusedSimpArgs false
set_option linter.unnecessarySimpa false
set_option maxRecDepth 100000
namespace Go.Proofs.YthonbfojpbfmgaaGreatDoor
open Go.RowKit

end Go.Proofs.YthonbfojpbfmgaaGreatDoor

/- Package chunk: lists of cells. -/
set_option linter.unusedVariables false
set_option linter.unusedSimpArgs false
set_option linter.unnecessarySimpa false
set_option maxRecDepth 100000
namespace Go.Proofs.YthonbfojpbfmgaaGreatDoor
open Go.RowKit

end Go.Proofs.YthonbfojpbfmgaaGreatDoor

/- The head of a body. -/
set_option maxRecDepth 512
set_option linter.unusedVariables false
namespace Go.Proofs.YthonbfojpbfmgaaGreatDoor
open Go.RowKit
/-- the head of a body: codec, width, the words of the bitmap, and what is left behind each -/
structure Head where
  codec : Nat
  wd : Nat
  nulls : List Nat
  left : List Nat
  short : Bool
def headOf (rows : Nat) (xs : List Nat) : Head :=
  { codec := L.wordOf 8 (tk 1 xs), wd := L.wordOf 8 (tk 1 (tkL 1 xs)), nulls := numL 8 (tk (8 * ((rows + 63) / 64)) (tkL 1 (tkL 1 xs))),
    left := tkL (8 * ((rows + 63) / 64)) (tkL 1 (tkL 1 xs)), short := tkS (8 * ((rows + 63) / 64)) (tkL 1 (tkL 1 xs)) (tkS 1 (tkL 1 xs) (tkS 1 xs false)) }
/-- how many rows are not NULL -/
def cntOf (rows : Nat) (nulls : List Nat) : Nat := rows - rankN nulls rows
def headOk (kind : Int) (rows : Nat) (h : Head) : Bool := okPack 1 rows h.nulls && isCodec kind h.codec
end Go.Proofs.YthonbfojpbfmgaaGreatDoor

/- Package chunk: values, both kinds, every codec. -/
set_option linter.unusedVariables false
set_option linter.unusedSimpArgs false
set_option linter.unnecessarySimpa false
set_option maxRecDepth 100000
namespace Go.Proofs.YthonbfojpbfmgaaGreatDoor
open Go.RowKit

def vl_I (cd wd : Nat) (list : List Int) (ends : List Nat) (base : Int) (lanes : List Nat) (j : Nat) : Int :=
  if cd = 4 ∨ cd = 5 then val45 base (L.laneOf wd lanes j) else val_I cd wd list ends lanes j
def okv_I (cd wd : Nat) (list : List Int) (ends : List Nat) (lanes : List Nat) (j : Nat) : Prop :=
  ((cd = 4 ∨ cd = 5) ∧ wd ≤ 64 ∧ (0 < wd → j / (64 / wd) < lanes.length)) ∨ ok_I cd wd list ends lanes j
theorem ValueAll_I (w : World) (g : Nat) (rows : Int) (codec wd : Nat) (nulls : List Nat) (count : Int) (list : List Int) (ends : List Nat) (base : Int) (lanes : List Nat) (j : Nat)
    (h : Ck_I w g rows codec wd nulls count list ends base lanes) (hel : ends.length ≤ 16777216) (hll : list.length ≤ 16777216) (hnv : ∀ x ∈ lanes, x < 18446744073709551616) (hj : j ≤ 65536) (hok : okv_I codec wd list ends lanes j) :
    Calls Tryz.prog 130 #[.pointer (some ⟨g, 0, none⟩), .int .i64 j] w fun e w' => e = .returned (vI (vl_I codec wd list ends base lanes j)) ∧ Below w.heap.size w w' := by
  unfold vl_I
  rcases hok with ⟨h1, h2, h3⟩ | h1
  · rw [if_pos h1]
    exact Value45_any w g rows codec wd nulls count list ends base lanes j h hnv hj h1 h2 h3
  · have hn : ¬ (codec = 4 ∨ codec = 5) := by rcases h1 with h1 | h1 | h1 <;> omega
    rw [if_neg hn]
    exact Value123_I w g rows codec wd nulls count list ends base lanes j h hel hll hnv hj h1
def vl_S (cd wd : Nat) (list : List ByteArray) (ends : List Nat) (base : Int) (lanes : List Nat) (j : Nat) : ByteArray := val_S cd wd list ends lanes j
def okv_S (cd wd : Nat) (list : List ByteArray) (ends : List Nat) (lanes : List Nat) (j : Nat) : Prop := ok_S cd wd list ends lanes j
theorem ValueAll_S (w : World) (g : Nat) (rows : Int) (codec wd : Nat) (nulls : List Nat) (count : Int) (list : List ByteArray) (ends : List Nat) (base : Int) (lanes : List Nat) (j : Nat)
    (h : Ck_S w g rows codec wd nulls count list ends base lanes) (hel : ends.length ≤ 16777216) (hll : list.length ≤ 16777216) (hnv : ∀ x ∈ lanes, x < 18446744073709551616) (hj : j ≤ 65536) (hok : okv_S codec wd list ends lanes j) :
    Calls Tryz.prog 123 #[.pointer (some ⟨g, 0, none⟩), .int .i64 j] w fun e w' => e = .returned (vS (vl_S codec wd list ends base lanes j)) ∧ Below w.heap.size w w' :=
  Value123_S w g rows codec wd nulls count list ends base lanes j h hel hll hnv hj hok
/-- the fields of the cell of a value -/
def cB_I (x : Int) : Int := x
def cC_I (x : Int) : ByteArray := ByteArray.empty
def cB_S (x : ByteArray) : Int := 0
def cC_S (x : ByteArray) : ByteArray := x
theorem rank_lt {rows : Nat} (nulls : List Nat) (r : Nat) (hr : r < rows) (hb : bitOf nulls r = false) : r - rankN nulls (r + 1) < rows - rankN nulls rows := by
  have h1 : rankN nulls (r + 1) ≤ r := by
    rw [rankN_succ, hb]; unfold rankN; have := List.length_filter_le (bitOf nulls) (List.range r); rw [List.length_range] at this; simpa using this
  have h2 : ∀ d, rankN nulls (r + 1 + d) ≤ rankN nulls (r + 1) + d := by
    intro d
    induction d with
    | zero => simp
    | succ d ih => rw [← Nat.add_assoc, rankN_succ]; split <;> omega
  have h3 := h2 (rows - (r + 1))
  rw [show r + 1 + (rows - (r + 1)) = rows by omega] at h3
  omega

end Go.Proofs.YthonbfojpbfmgaaGreatDoor
