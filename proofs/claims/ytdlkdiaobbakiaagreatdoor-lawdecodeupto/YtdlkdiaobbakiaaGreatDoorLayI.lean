/- The laws' own helpers over lists of ints: layInts, sameInts. -/
import Derived.Test.YtdlkdiaobbakiaaGreatDoorLay
set_option linter.unusedVariables false
set_option linter.unusedSimpArgs false
set_option linter.unnecessarySimpa false
set_option maxRecDepth 20000
namespace Go.Proofs.YtdlkdiaobbakiaaGreatDoor
open Go.RowKit

def i64s (xs : List Int) : List Value := xs.map (Value.int .i64)
theorem i64s_length (xs : List Int) : (i64s xs).length = xs.length := by simp [i64s]
theorem i64s_append (a b : List Int) : i64s (a ++ b) = i64s a ++ i64s b := by simp [i64s]
theorem i64s_get (xs : List Int) (i : Nat) (h : i < xs.length) : (i64s xs)[i]? = some (.int .i64 (xs.getD i 0)) := by
  simp [i64s, List.getElem?_eq_getElem h, List.getD]
theorem oneCell_i64s (xs : List Int) : ∀ u ∈ i64s xs, u.oneCell' = true := by
  intro u hu; simp only [i64s, List.mem_map] at hu; obtain ⟨n, _, rfl⟩ := hu; rfl
theorem Seg.int {w : World} {b o : Nat} {xs : List Int} (h : Seg w b o (i64s xs)) (i : Nat) (hi : i < xs.length) : w.cell? ⟨b, o + i, none⟩ = some (.int .i64 (xs.getD i 0)) :=
  h i _ (i64s_get xs i hi)
theorem Tryz.infoI64 : (Tryz.prog.info? 3).map (fun i => (i.zero, i.size, i.bytes)) = some (some (.int .i64 0), 1, 8) := by kernel_rfl

def tailI (m : Nat) : List Int := (List.range m).map fun j : Nat => -131 - (j : Int)
theorem tailI_succ (j : Nat) : tailI (j + 1) = tailI j ++ [-131 - (j : Int)] := by simp [tailI, List.range_succ]
theorem tailI_length (m : Nat) : (tailI m).length = m := by simp [tailI]

set_option maxHeartbeats 400000 in
theorem layInts_any (v : Value) (xs : List Int) (r : Int) (w : World) (hx : Rd w v xs.length 1 (i64s xs)) (hl : xs.length ≤ 17592186044416) :
    Calls Tryz.prog 6 #[v, .int .i64 r] w fun e w' =>
      e = .returned (.slice (some ⟨w.heap.size, 0, none⟩) (xs.length + clipN r) (xs.length + clipN r)) ∧ Row w' w.heap.size 3 (i64s (xs ++ tailI (clipN r))) ∧ Below w.heap.size w w' ∧ w'.heap.size = w.heap.size + 1 := by
  have hc := clipN_le r
  generalize hcr : clipN r = m at *
  have HC := hcr; clear hcr
  have HX : Hid (Rd w v xs.length 1 (i64s xs)) := hx
  obtain ⟨A, cap, rfl, _, _, _⟩ := hx.form
  clear hx
  go_enter Tryz.func6, Tryz.ntmps6
  go_wp2_with (go_at_call 17; refine (clip_any _ _).mono ?_; rintro e w' ⟨rfl, rfl⟩)
  refine upon_make 3 (.int .i64 0) 8 Tryz.underlying23 Tryz.infoI64 rfl (xs.length + m) (by omega) (by omega) (by omega) (by unfold maxLen; omega) ?_
  intro w1 hrow hb1 hsz1
  have HZ : Hid (w1.heap.size = w'.heap.size + 1) := hsz1
  clear hsz1
  go_wp2
  refine upon_copy 3 Tryz.underlying23 (by kernel_rfl) hrow (HX.out.mono hb1) (oneCell_i64s xs) (by simp) ?_
  rw [Nat.min_eq_left (by omega)]
  intro w2 hrow2 _ hb2 hsz2
  rw [show List.take xs.length (i64s xs) = i64s xs from by rw [← i64s_length xs, List.take_length]] at hrow2
  have hb3 : Below w'.heap.size w' w2 := hb1.trans hb2
  have HZ2 : Hid (w2.heap.size = w'.heap.size + 1) := by rw [hsz2]; exact HZ.out
  clear hsz2 hb2 hrow hb1 HZ
  simp only [Nat.zero_add, List.take_zero, List.nil_append, List.drop_replicate, Nat.add_sub_cancel_left] at hrow2
  go_wp2
  go_loopw [6] (fun i wr => ∃ j : Nat, j ≤ m ∧ i = .int .i64 (xs.length + j : Nat) ∧ Row wr w'.heap.size 3 (i64s (xs ++ tailI j) ++ List.replicate (m - j) (.int .i64 0)) ∧ Below w'.heap.size w' wr ∧ Hid (wr.heap.size = w'.heap.size + 1))
      (fun i _ => xs.length + m - (intOf i).toNat)
  case atStart => exact ⟨0, by omega, rfl, by simpa [tailI] using hrow2, hb3, HZ2⟩
  case round =>
    obtain ⟨j, hj, rfl, hr, hb, hz⟩ := hrel
    clear hrow2 hb3 HZ2
    by_cases hlt : j < m
    · have hcell : wr.cell? ⟨w'.heap.size, xs.length + j, none⟩ = some (.int .i64 0) := by
        rw [hr.cell]; exact get_fill _ _ _ _ (by simp [i64s, tailI]) (by omega)
      have hfr := hr.frozen (xs.length + j)
      have HR := hid hr; clear hr
      go_wp2
      go_roundw
      case rel =>
        refine ⟨j + 1, by omega, by go_num, ?_, hb.setCell (Nat.le_refl _) _, ?_⟩
        · have hs := HR.out.set (xs.length + j) (.int .i64 (-131 - (j : Int)))
          rw [set_fill _ _ _ _ _ (by simp [i64s, tailI]) (by omega)] at hs
          rw [tailI_succ, ← List.append_assoc, i64s_append _ [_], ← Nat.sub_sub m j 1]
          rw [show (-131 - ((xs.length : Int) + (j : Int)) + (xs.length : Int)) = -131 - (j : Int) from by omega]
          exact hs
        · show _ = _; rw [← hz.out]; simp [World.setCell]
      case measure => simp [intOf]; omega
    · obtain rfl : j = m := by omega
      go_wp2
      go_ret
      exact ⟨rfl, by simpa using hr, hb, hz.out⟩

theorem eq_stepI (xs ys : List Int) (k : Nat) (h : xs.length = ys.length) (hp : xs.take k = ys.take k) (hk : k < xs.length) (he : xs.getD k 0 = ys.getD k 0) : xs.take (k + 1) = ys.take (k + 1) := by
  rw [List.take_succ_eq_append_getElem hk, List.take_succ_eq_append_getElem (h ▸ hk), hp]
  simp only [List.getD, List.getElem?_eq_getElem hk, List.getElem?_eq_getElem (h ▸ hk), Option.getD_some] at he
  rw [he]

set_option maxHeartbeats 400000 in
theorem sameInts_same (x y : Value) (xs : List Int) (w : World) (hx : Rd w x xs.length 1 (i64s xs)) (hy : Rd w y xs.length 1 (i64s xs)) (hl : xs.length ≤ maxLen) :
    Calls Tryz.prog 13 #[x, y] w fun e w' => e = .returned (.bool true) ∧ ∃ n, w' = w.drewN n := by
  unfold maxLen at hl
  obtain ⟨A, ca, rfl, hlc, hcm, hA⟩ := hx.form
  obtain ⟨B, cb, rfl, hlc2, hcm2, hB⟩ := hy.form
  clear hx hy
  go_enter Tryz.func13, Tryz.ntmps13
  have e1 : (((xs.length : Int)) != (xs.length : Int)) = false := by simp
  go_wp2
  go_loopw [13] (fun i wr => (∃ k : Nat, k ≤ xs.length ∧ i = .int .i64 k) ∧ ∃ n, wr = w.drewN n) (fun i _ => xs.length - (intOf i).toNat)
  case atStart => exact ⟨⟨0, by omega, rfl⟩, 0, rfl⟩
  case round =>
    obtain ⟨⟨k, hk, rfl⟩, n, rfl⟩ := hrel
    by_cases hlt : k < xs.length
    · obtain ⟨b, o, rfl, hs⟩ := hA (by omega)
      obtain ⟨b', o', rfl, hs'⟩ := hB (by omega)
      have c1 := hs.int k hlt
      have c2 := hs'.int k hlt
      generalize xs.getD k 0 = p at *
      clear hA hB hs hs'
      have e2 : (p != p) = false := by simp
      go_wp2
      go_quiet (fail)
      go_wp2
      go_roundw
      case rel => exact ⟨⟨k + 1, by omega, by go_num⟩, _, rfl⟩
      case measure => simp [intOf]; omega
    · go_wp2
      go_ret
      exact ⟨rfl, n, rfl⟩
end Go.Proofs.YtdlkdiaobbakiaaGreatDoor
