/- Package chunk: the number of a row's value. -/
import Derived.Test.YtdlkdiaobbakiaaGreatDoorValI
import Derived.Test.YtdlkdiaobbakiaaGreatDoorKinds
import Derived.Deep.CutRange
set_option linter.unusedVariables false
set_option linter.unusedSimpArgs false
set_option linter.unnecessarySimpa false
set_option maxRecDepth 100000
namespace Go.Proofs.YtdlkdiaobbakiaaGreatDoor
open Go.RowKit

set_option maxHeartbeats 4000000 in
theorem number_I (w : World) (g : Nat) (rows codec wd : Nat) (nulls : List Nat) (count : Int) (list : List Int) (ends : List Nat) (base : Int) (lanes : List Nat) (r : Nat)
    (h : Ck_I w g rows codec wd nulls count list ends base lanes) (hbm : nulls.length = (rows + 63) / 64) (hnv : ∀ x ∈ nulls, x < 18446744073709551616) (hrr : rows ≤ 65536) (hr : r < rows) :
    Calls Tryz.prog 109 #[.pointer (some ⟨g, 0, none⟩), .int .i64 r] w fun e w' => e = .returned (.int .i64 ((r : Int) - (rankN nulls (r + 1) : Nat))) ∧ Below w.heap.size w w' := by
  obtain ⟨nu, lv, ev, nv, bef, h1, h2, h3, h4, h5, h6⟩ := h.ex
  obtain ⟨A, ca, rfl, hlc, hcm, hA⟩ := h2.form
  obtain ⟨A', ca', rfl, hlc', hcm', hA'⟩ := h6.form
  obtain ⟨q, hq⟩ : ∃ q, r / 64 = q := ⟨_, rfl⟩
  obtain ⟨b, hb⟩ : ∃ b, r % 64 = b := ⟨_, rfl⟩
  have hq' : (r : Int) / 64 = (q : Int) := by omega
  have hb' : (r : Int) % 64 = (b : Int) := by omega
  have hqn : q < nulls.length := by omega
  have hb64 : b < 64 := by omega
  obtain ⟨bl, o, rfl, hs⟩ := hA (by omega)
  obtain ⟨bl', o', rfl, hs'⟩ := hA' (by omega)
  have c3 : w.cell? ⟨g, 3, none⟩ = some (.slice (some ⟨bl, o, none⟩) nulls.length ca) := by rw [h1.cell]; rfl
  have c10 : w.cell? ⟨g, 10, none⟩ = some (.slice (some ⟨bl', o', none⟩) nulls.length ca') := by rw [h1.cell]; rfl
  have d1 := hs.word q hqn
  have d2 : w.cell? ⟨bl', o' + q, none⟩ = some (.int .i64 (popL (nulls.take q) : Nat)) := by
    have := hs' q _ (i64s_get (befL nulls) q (by rw [befL_length]; exact hqn))
    rwa [befL_get _ _ hqn] at this
  have hxq : nulls.getD q 0 < 18446744073709551616 := hnv _ (by simp [List.getD, List.getElem?_eq_getElem hqn])
  have hrk := rank_upto nulls r (by rw [hq]; exact hqn)
  rw [hq, hb] at hrk
  have hpl := popL_le (nulls.take q)
  rw [List.length_take] at hpl
  have hle : rankN nulls (r + 1) ≤ r + 1 := by unfold rankN; have := List.length_filter_le (bitOf nulls) (List.range (r + 1)); rwa [List.length_range] at this
  generalize rankN nulls (r + 1) = rk at *
  have HON := hid (fun w2 : World => onesCount_any (nulls.getD q 0 * 2 ^ (63 - b) % 18446744073709551616) w2 (Nat.mod_lt _ (by omega)))
  generalize hp1 : popL (nulls.take q) = p1 at *
  generalize hp2 : L.popN 64 (nulls.getD q 0 * 2 ^ (63 - b) % 18446744073709551616) = p2 at *
  generalize nulls.getD q 0 = y at *
  obtain ⟨z, hz⟩ : ∃ z, y * 2 ^ (63 - b) % 18446744073709551616 = z := ⟨_, rfl⟩
  have hsh : IntKind.u64.wrap ((y : Int) * 2 ^ (63 - b)) = (z : Int) := by rw [IntKind.wrap_u64, ← hz]; simp
  rw [hz] at HON hp2
  have hsb : (63 : Int) - (b : Int) = ((63 - b : Nat) : Int) := by omega
  have hp1b : p1 ≤ 4194304 := by omega
  have HLE := hid hle
  have hp12 : (r : Int) - (p1 : Int) - (p2 : Int) = (r : Int) - (rk : Int) := by omega
  clear hle hpl hrk hbm h1 h2 h3 h4 h5 h6 hs hs' hA hA' hnv h hp1 hp2 hz hq hb
  go_enter Tryz.func109, Tryz.ntmps109
  go_wp2
  go_quiet (first | (go_at_call 96; refine Calls.quiet_of_same (HON.out _)))
  go_wp2_with fail
  go_ret
  exact ⟨ret_i64 (by have := HLE.out; unfold wrap64; omega), bdrew (brefl w) _⟩
end Go.Proofs.YtdlkdiaobbakiaaGreatDoor
