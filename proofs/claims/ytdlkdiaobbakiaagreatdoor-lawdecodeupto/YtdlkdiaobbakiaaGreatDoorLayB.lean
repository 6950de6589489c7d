/- The laws' own helpers over bytes and cells. -/
import Derived.Test.YtdlkdiaobbakiaaGreatDoorStr
import Derived.Test.YtdlkdiaobbakiaaGreatDoorKinds
import Derived.Laws.StructEq
set_option linter.unusedVariables false
set_option linter.unusedSimpArgs false
set_option linter.unnecessarySimpa false
set_option maxRecDepth 100000
namespace Go.Proofs.YtdlkdiaobbakiaaGreatDoor
open Go.RowKit

theorem Tryz.infoU8 : (Tryz.prog.info? 5).map (fun i => (i.zero, i.size, i.bytes)) = some (some (.int .u8 0), 1, 1) := by kernel_rfl
def tailB (m : Nat) : List Nat := (List.range m).map fun j => (131 + j) % 256
theorem tailB_succ (j : Nat) : tailB (j + 1) = tailB j ++ [(131 + j) % 256] := by simp [tailB, List.range_succ]
theorem tailB_length (m : Nat) : (tailB m).length = m := by simp [tailB]

set_option maxHeartbeats 1000000 in
theorem layBytes_any (v : Value) (xs : List Nat) (r : Int) (w : World) (hx : Rd w v xs.length 1 (u8s xs)) (hl : xs.length ≤ 17592186044416) :
    Calls Tryz.prog 5 #[v, .int .i64 r] w fun e w' =>
      e = .returned (.slice (some ⟨w.heap.size, 0, none⟩) (xs.length + clipN r) (xs.length + clipN r)) ∧ Row w' w.heap.size 5 (u8s (xs ++ tailB (clipN r))) ∧ Below w.heap.size w w' ∧ w'.heap.size = w.heap.size + 1 := by
  have hc := clipN_le r
  generalize hcr : clipN r = m at *
  have HC := hcr; clear hcr
  have HX : Hid (Rd w v xs.length 1 (u8s xs)) := hx
  obtain ⟨A, cap, rfl, _, _, _⟩ := hx.form
  clear hx
  go_enter Tryz.func5, Tryz.ntmps5
  go_wp2_with (go_at_call 17; refine (clip_any _ _).mono ?_; rintro e w' ⟨rfl, rfl⟩)
  refine upon_make 5 (.int .u8 0) 1 Tryz.underlying22 Tryz.infoU8 rfl (xs.length + m) (by omega) (by omega) (by omega) (by unfold maxLen; omega) ?_
  intro w1 hrow hb1 hsz1
  have HZ : Hid (w1.heap.size = w'.heap.size + 1) := hsz1
  clear hsz1
  go_wp2
  refine upon_copy 5 Tryz.underlying22 (by kernel_rfl) hrow (HX.out.mono hb1) (oneCell_u8s xs) (by simp) ?_
  rw [Nat.min_eq_left (by omega)]
  intro w2 hrow2 _ hb2 hsz2
  rw [show List.take xs.length (u8s xs) = u8s xs from by rw [← u8s_length xs, List.take_length]] at hrow2
  have hb3 : Below w'.heap.size w' w2 := hb1.trans hb2
  have HZ2 : Hid (w2.heap.size = w'.heap.size + 1) := by rw [hsz2]; exact HZ.out
  clear hsz2 hb2 hrow hb1 HZ
  simp only [Nat.zero_add, List.take_zero, List.nil_append, List.drop_replicate, Nat.add_sub_cancel_left] at hrow2
  go_wp2
  go_loopw [6] (fun i wr => ∃ j : Nat, j ≤ m ∧ i = .int .i64 (xs.length + j : Nat) ∧ Row wr w'.heap.size 5 (u8s (xs ++ tailB j) ++ List.replicate (m - j) (.int .u8 0)) ∧ Below w'.heap.size w' wr ∧ Hid (wr.heap.size = w'.heap.size + 1))
      (fun i _ => xs.length + m - (intOf i).toNat)
  case atStart => exact ⟨0, by omega, rfl, by simpa [tailB] using hrow2, hb3, HZ2⟩
  case round =>
    obtain ⟨j, hj, rfl, hr, hb, hz⟩ := hrel
    clear hrow2 hb3 HZ2
    by_cases hlt : j < m
    · have hcell : wr.cell? ⟨w'.heap.size, xs.length + j, none⟩ = some (.int .u8 0) := by
        rw [hr.cell]; exact get_fill _ _ _ _ (by simp [u8s, tailB]) (by omega)
      have hfr := hr.frozen (xs.length + j)
      have HR := hid hr; clear hr
      go_wp2
      go_roundw
      case rel =>
        refine ⟨j + 1, by omega, by go_num, ?_, hb.setCell (Nat.le_refl _) _, ?_⟩
        · have hs := HR.out.set (xs.length + j) (.int .u8 (((131 + j) % 256 : Nat) : Int))
          rw [set_fill _ _ _ _ _ (by simp [u8s, tailB]) (by omega)] at hs
          rw [show ((131 : Int) + ((xs.length : Int) + (j : Int)) - (xs.length : Int)) % 256 = (((131 + j) % 256 : Nat) : Int) by omega, tailB_succ, ← List.append_assoc, u8s_append, ← Nat.sub_sub m j 1]
          exact hs
        · show _ = _; rw [← hz.out]; simp [World.setCell]
      case measure => simp [intOf]; omega
    · obtain rfl : j = m := by omega
      go_wp2
      go_ret
      exact ⟨rfl, by simpa using hr, hb, hz.out⟩

theorem sameBytes_same (x y : Value) (xs : List Nat) (w : World) (hx : Rd w x xs.length 1 (u8s xs)) (hy : Rd w y xs.length 1 (u8s xs)) :
    Calls Tryz.prog 12 #[x, y] w fun e w' => e = .returned (.bool true) ∧ w' = w := by
  have h1 := run_str hx
  have h2 := run_str hy
  generalize ofBytes xs = S at *
  clear hx hy
  go_enter Tryz.func12, Tryz.ntmps12
  go_wp2
  go_ret
  exact ⟨by simp, rfl⟩

theorem cellsUp_get (A : Nat → Bool) (B : Nat → Int) (C : Nat → ByteArray) (n : Nat) : ∀ k, k < n → (cellsUp A B C n)[k * 3]? = some (.bool (A k)) ∧ (cellsUp A B C n)[k * 3 + 1]? = some (.int .i64 (B k)) ∧ (cellsUp A B C n)[k * 3 + 2]? = some (.string (C k)) := by
  induction n with
  | zero => intro k hk; omega
  | succ n ih =>
    intro k hk
    have hl := cellsUp_length A B C n
    by_cases hkn : k < n
    · have := ih k hkn
      rw [cellsUp]
      rw [List.getElem?_append_left (by omega), List.getElem?_append_left (by omega), List.getElem?_append_left (by omega)]
      exact this
    · obtain rfl : k = n := by omega
      rw [cellsUp]
      rw [List.getElem?_append_right (by omega), List.getElem?_append_right (by omega), List.getElem?_append_right (by omega), hl]
      simp

set_option maxHeartbeats 1000000 in
theorem sameCells_same (x y : Value) (n : Nat) (A : Nat → Bool) (B : Nat → Int) (C : Nat → ByteArray) (w : World) (hx : Rd w x n 3 (cellsUp A B C n)) (hy : Rd w y n 3 (cellsUp A B C n)) (hn : n ≤ 1048576) :
    Calls Tryz.prog 9 #[x, y] w fun e w' => e = .returned (.bool true) ∧ ∃ m, w' = w.drewN m := by
  obtain ⟨A1, ca, rfl, hlc, hcm, hA⟩ := hx.form
  obtain ⟨B1, cb, rfl, hlc2, hcm2, hB⟩ := hy.form
  clear hx hy
  have e1 : ((n : Int) != (n : Int)) = false := by simp
  go_enter Tryz.func9, Tryz.ntmps9
  go_wp2
  go_loopw [13] (fun i wr => (∃ k : Nat, k ≤ n ∧ i = .int .i64 k) ∧ ∃ m, wr = w.drewN m) (fun i _ => n - (intOf i).toNat)
  case atStart => exact ⟨⟨0, by omega, rfl⟩, 0, rfl⟩
  case round =>
    obtain ⟨⟨k, hk, rfl⟩, m, rfl⟩ := hrel
    by_cases hlt : k < n
    · obtain ⟨b, o, rfl, hs⟩ := hA (by omega)
      obtain ⟨b', o', rfl, hs'⟩ := hB (by omega)
      obtain ⟨g0, g1, g2⟩ := cellsUp_get A B C n k hlt
      have c0 : w.cell? ⟨b, o + k * 3, none⟩ = _ := hs _ _ g0
      have c1 : w.cell? ⟨b, o + k * 3 + 1, none⟩ = _ := hs _ _ g1
      have c2 : w.cell? ⟨b, o + k * 3 + 2, none⟩ = _ := hs _ _ g2
      have d0 : w.cell? ⟨b', o' + k * 3, none⟩ = _ := hs' _ _ g0
      have d1 : w.cell? ⟨b', o' + k * 3 + 1, none⟩ = _ := hs' _ _ g1
      have d2 : w.cell? ⟨b', o' + k * 3 + 2, none⟩ = _ := hs' _ _ g2
      clear hA hB hs hs' g0 g1 g2
      generalize A k = xa at *
      generalize B k = xb at *
      generalize C k = xc at *
      go_wp2
      go_quiet (fail)
      go_wp2
      go_roundw
      case rel => exact ⟨⟨k + 1, by omega, by go_num⟩, _, rfl⟩
      case measure => simp [intOf]; omega
    · go_wp2
      go_ret
      exact ⟨rfl, m, rfl⟩
end Go.Proofs.YtdlkdiaobbakiaaGreatDoor
