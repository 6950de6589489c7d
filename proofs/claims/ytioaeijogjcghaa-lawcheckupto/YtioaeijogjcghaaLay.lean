/- The laws' own helpers over words: clip, layWords, sameWords, spoilWords, copyWords. -/
import Derived.Test.YtioaeijogjcghaaProg
import Derived.Test.YtioaeijogjcghaaMem
set_option linter.unusedVariables false
set_option linter.unusedSimpArgs false
set_option linter.unnecessarySimpa false
namespace Go.Proofs.Ytioaeijogjcghaa
open Go.RowKit

def clipN (r : Int) : Nat := (min (max r 0) 1024).toNat
theorem clipN_le (r : Int) : clipN r ≤ 1024 := by unfold clipN; omega

theorem clip_any (r : Int) (w : World) :
    Calls Try.prog 20 #[.int .i64 r] w fun e w' => e = .returned (.int .i64 (clipN r : Nat)) ∧ w' = w := by
  go_enter Try.func20, Try.ntmps20
  go_wp2
  all_goals go_ret
  all_goals refine ⟨?_, rfl⟩
  all_goals simp [clipN]
  all_goals omega

theorem Try.info45 : (Try.prog.info? 60).map (fun i => (i.zero, i.size, i.bytes)) = some (some (.int .u64 0), 1, 8) := by kernel_rfl

/-- What lies behind the words that a law hands over. -/
def tailW (m : Nat) : List Nat := (List.range m).map fun j => 18446744073709551615 - (131 + j)

theorem tailW_succ (j : Nat) : tailW (j + 1) = tailW j ++ [18446744073709551615 - (131 + j)] := by simp [tailW, List.range_succ]

set_option maxHeartbeats 400000 in
theorem layWords_any (v : Value) (xs : List Nat) (r : Int) (w : World) (hx : Rd w v xs.length 1 (u64s xs)) (hl : xs.length ≤ 17592186044416) :
    Calls Try.prog 18 #[v, .int .i64 r] w fun e w' =>
      e = .returned (.slice (some ⟨w.heap.size, 0, none⟩) (xs.length + clipN r) (xs.length + clipN r)) ∧ Row w' w.heap.size 60 (u64s (xs ++ tailW (clipN r))) ∧ Below w.heap.size w w' ∧ w'.heap.size = w.heap.size + 1 := by
  have hc := clipN_le r
  generalize hcr : clipN r = m at *
  have HC := hcr; clear hcr
  have HX : Hid (Rd w v xs.length 1 (u64s xs)) := hx
  obtain ⟨A, cap, rfl, _, _, _⟩ := hx.form
  clear hx
  go_enter Try.func18, Try.ntmps18
  go_wp2_with (go_at_call 20; refine (clip_any _ _).mono ?_; rintro e w' ⟨rfl, rfl⟩)
  refine upon_make 60 (.int .u64 0) 8 Try.underlying35 Try.info45 rfl (xs.length + m) (by omega) (by omega) (by omega) (by unfold maxLen; omega) ?_
  intro w1 hrow hb1 hsz1
  have HZ : Hid (w1.heap.size = w'.heap.size + 1) := hsz1
  clear hsz1
  go_wp2
  refine upon_copy 60 Try.underlying35 (by kernel_rfl) hrow (HX.out.mono hb1) (oneCell_u64s xs) (by simp) ?_
  rw [Nat.min_eq_left (by omega)]
  intro w2 hrow2 _ hb2 hsz2
  rw [show List.take xs.length (u64s xs) = u64s xs from by rw [← u64s_length xs, List.take_length]] at hrow2
  have hb3 : Below w'.heap.size w' w2 := hb1.trans hb2
  have HZ2 : Hid (w2.heap.size = w'.heap.size + 1) := by rw [hsz2]; exact HZ.out
  clear hsz2 hb2 hrow hb1 HZ
  simp only [Nat.zero_add, List.take_zero, List.nil_append, List.drop_replicate, Nat.add_sub_cancel_left] at hrow2
  go_wp2
  go_loopw [6] (fun i wr => ∃ j : Nat, j ≤ m ∧ i = .int .i64 (xs.length + j : Nat) ∧ Row wr w'.heap.size 60 (u64s (xs ++ tailW j) ++ List.replicate (m - j) (.int .u64 0)) ∧ Below w'.heap.size w' wr ∧ Hid (wr.heap.size = w'.heap.size + 1))
      (fun i _ => xs.length + m - (intOf i).toNat)
  case atStart => exact ⟨0, by omega, rfl, by simpa [tailW] using hrow2, hb3, HZ2⟩
  case round =>
    obtain ⟨j, hj, rfl, hr, hb, hz⟩ := hrel
    clear hrow2 hb3 HZ2
    by_cases hlt : j < m
    · have hcell : wr.cell? ⟨w'.heap.size, xs.length + j, none⟩ = some (.int .u64 0) := by
        rw [hr.cell]; exact get_fill _ _ _ _ (by simp [u64s, tailW]) (by omega)
      have hfr := hr.frozen (xs.length + j)
      have HR := hid hr; clear hr
      go_wp2
      go_roundw
      case rel =>
        refine ⟨j + 1, by omega, by go_num, ?_, hb.setCell (Nat.le_refl _) _, ?_⟩
        · have hs := HR.out.set (xs.length + j) (.int .u64 ((18446744073709551615 - (131 + j) : Nat) : Int))
          rw [set_fill _ _ _ _ _ (by simp [u64s, tailW]) (by omega)] at hs
          rw [if_u64, not_u64 _ (131 + j) (by omega) (by omega), tailW_succ, ← List.append_assoc, u64s_append, ← Nat.sub_sub m j 1]
          exact hs
        · show _ = _; rw [← hz.out]; simp [World.setCell]
      case measure => simp [intOf]; omega
    · obtain rfl : j = m := by omega
      go_wp2
      go_ret
      exact ⟨rfl, by simpa using hr, hb, hz.out⟩

theorem eq_step (xs ys : List Nat) (k : Nat) (h : xs.length = ys.length) (hp : xs.take k = ys.take k) (hk : k < xs.length) (he : xs.getD k 0 = ys.getD k 0) : xs.take (k + 1) = ys.take (k + 1) := by
  rw [List.take_succ_eq_append_getElem hk, List.take_succ_eq_append_getElem (h ▸ hk), hp]
  simp only [List.getD, List.getElem?_eq_getElem hk, List.getElem?_eq_getElem (h ▸ hk), Option.getD_some] at he
  rw [he]

set_option maxHeartbeats 400000 in
theorem sameWords_any (x y : Value) (xs ys : List Nat) (w : World) (hx : Rd w x xs.length 1 (u64s xs)) (hy : Rd w y ys.length 1 (u64s ys)) (hl : xs.length ≤ maxLen) (hl2 : ys.length ≤ maxLen) :
    Calls Try.prog 15 #[x, y] w fun e w' => e = .returned (.bool (decide (xs = ys))) ∧ ∃ n, w' = w.drewN n := by
  unfold maxLen at hl hl2
  obtain ⟨A, ca, rfl, hlc, hcm, hA⟩ := hx.form
  obtain ⟨B, cb, rfl, hlc2, hcm2, hB⟩ := hy.form
  clear hx hy
  go_enter Try.func15, Try.ntmps15
  by_cases hne : xs.length = ys.length
  · have e1 : (((xs.length : Int)) != (ys.length : Int)) = false := by rw [hne]; simp
    have HN := hid hne
    clear hne
    go_wp2
    go_loopw [13] (fun i wr => (∃ k : Nat, k ≤ xs.length ∧ i = .int .i64 k ∧ xs.take k = ys.take k) ∧ ∃ n, wr = w.drewN n) (fun i _ => xs.length - (intOf i).toNat)
    case atStart => exact ⟨⟨0, by omega, rfl, rfl⟩, 0, rfl⟩
    case round =>
      obtain ⟨⟨k, hk, rfl, hp⟩, n, rfl⟩ := hrel
      have HP := hid hp
      clear hp
      by_cases hlt : k < xs.length
      · obtain ⟨b, o, rfl, hs⟩ := hA (by omega)
        obtain ⟨b', o', rfl, hs'⟩ := hB (by have := HN.out; omega)
        have hlt' : k < ys.length := by have := HN.out; omega
        have c1 := hs.word k hlt
        have c2 := hs'.word k hlt'
        have HE : Hid (xs.getD k 0 = ys.getD k 0 → xs.take (k + 1) = ys.take (k + 1)) := eq_step xs ys k HN.out HP.out hlt
        have HF : Hid (xs.getD k 0 ≠ ys.getD k 0 → xs ≠ ys) := fun h e => h (by rw [e])
        generalize xs.getD k 0 = p at *
        generalize ys.getD k 0 = q at *
        clear hA hB hs hs'
        go_wp2
        go_quiet (fail)
        go_wp2
        · rename_i h
          go_ret
          have : xs ≠ ys := HF.out (by rw [bne_iff_ne] at h; omega)
          exact ⟨by simp [this], _, by simp; rfl⟩
        · rename_i h
          go_roundw
          case rel => exact ⟨⟨k + 1, by omega, by go_num, HE.out (by rw [bne_eq_false_iff_eq] at h; omega)⟩, _, rfl⟩
          case measure => simp [intOf]; omega
      · go_wp2
        go_ret
        have hk' : k = xs.length := by omega
        subst hk'
        refine ⟨?_, n, rfl⟩
        have hp := HP.out
        rw [List.take_length, HN.out, List.take_length] at hp
        simp [hp]
  · have e1 : (((xs.length : Int)) != (ys.length : Int)) = true := by rw [bne_iff_ne]; omega
    go_wp2
    go_ret
    refine ⟨?_, 0, rfl⟩
    have : xs ≠ ys := fun h => hne (by rw [h])
    simp [this]
theorem sameWords_same (x y : Value) (xs : List Nat) (w : World) (hx : Rd w x xs.length 1 (u64s xs)) (hy : Rd w y xs.length 1 (u64s xs)) (hl : xs.length ≤ maxLen) :
    Calls Try.prog 15 #[x, y] w fun e w' => e = .returned (.bool true) ∧ ∃ n, w' = w.drewN n :=
  (sameWords_any x y xs xs w hx hy hl hl).mono fun e w' h => by simpa using h
end Go.Proofs.Ytioaeijogjcghaa
