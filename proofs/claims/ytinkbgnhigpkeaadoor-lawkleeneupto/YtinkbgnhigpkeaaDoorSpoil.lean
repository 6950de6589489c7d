/- The laws' spoilWords: it writes into the list that it is given alone, and into memory of its own. -/
import Derived.Test.YtinkbgnhigpkeaaDoorLay
set_option linter.unusedVariables false
set_option linter.unusedSimpArgs false
set_option linter.unnecessarySimpa false
namespace Go.Proofs.YtinkbgnhigpkeaaDoor
open Go.RowKit

set_option maxHeartbeats 2000000 in
theorem spoilWords_any (B : Nat) (v : Value) (xs : List Nat) (r : Int) (w : World) (hown : w.ownsRow B 55 1 v xs.length (u64s xs)) (hv : ∀ x ∈ xs, x < 18446744073709551616) (hB : B ≤ w.heap.size) (hl : xs.length ≤ 1099511627776) :
    Calls Tryd.prog 24 #[v, .int .i64 r] w fun e w' => (∃ u, e = .returned u) ∧ Below B w w' := by
  obtain ⟨A, ca, rfl, hlc, hcm, hlen, hform⟩ := owns_form hown
  have hm := clipN_le r
  obtain ⟨m, hmr⟩ : ∃ m, clipN r = m := ⟨_, rfl⟩
  have HMR := hid hmr
  rw [hmr] at hm
  have HOWN := hid hown
  have HV := hid hv
  have hcm2 := hcm
  unfold maxLen at hcm2
  clear hmr hown hv hform hlen hcm
  go_enter Tryd.func24, Tryd.ntmps24
  go_wp2
  go_loopw [9] (fun i wr => ∃ (k : Nat) (ys : List Nat), k ≤ xs.length ∧ i = .int .i64 k ∧ wr.ownsRow B 55 1 (.slice A xs.length ca) xs.length (u64s ys) ∧ (∀ y ∈ ys, y < 18446744073709551616) ∧ Below B w wr) (fun i _ => xs.length - (intOf i).toNat)
  case atStart => exact ⟨0, xs, by omega, rfl, HOWN.out, HV.out, Below.refl _ _⟩
  case round =>
    obtain ⟨k, ys, hk, rfl, hown, hys, hb⟩ := hrel
    have HYS := hid hys
    clear hys HOWN HV
    by_cases hlt : k < xs.length
    · obtain ⟨A', ca', he, _, _, hlen, hform⟩ := owns_form hown
      simp only [Value.slice.injEq, true_and] at he
      obtain ⟨rfl, rfl⟩ := he
      obtain ⟨g, rfl, hBg, hglt, hc, hf⟩ := hform (by omega)
      have hyl : ys.length = xs.length := by simpa [u64s] using hlen
      have hcell : wr.cell? ⟨g, k, none⟩ = some (.int .u64 ((ys.getD k 0 : Nat) : Int)) := by rw [hc k hlt]; exact u64s_get ys k (by omega)
      have hfr := hf k
      have hy := HYS.out (ys.getD k 0) (by simp [List.getD, List.getElem?_eq_getElem (show k < ys.length by omega)])
      have HN := hid (not_u64 (ys.getD k 0 : Int) (ys.getD k 0) rfl hy)
      have HS := hid (owns_set hown k (.int .u64 ((18446744073709551615 - ys.getD k 0 : Nat) : Int)))
      have HY2 : Hid (∀ y ∈ ys.set k (18446744073709551615 - ys.getD k 0), y < 18446744073709551616) := by
        intro y hy
        rcases List.mem_or_eq_of_mem_set hy with h | h
        · exact HYS.out y h
        · omega
      clear hc hf hform hlen hy hyl
      have HO := hid hown
      clear hown
      generalize hq : ys.getD k 0 = q at *
      clear hq
      go_wp2
      go_roundw
      case rel =>
        refine ⟨k + 1, ys.set k (18446744073709551615 - q), by omega, by go_num, ?_, HY2.out, below_set hb _ _ _ hBg⟩
        have hs := HS.out
        rw [if_u64, HN.out]
        simpa [u64s, u64, List.map_set] using hs
      case measure => simp [intOf]; omega
    · have HO := hid hown
      clear hown
      go_wp2
      go_loopw [0, 6] (fun v0 i wr => ∃ (k n : Nat) (cs : List Value), k ≤ m ∧ i = .int .i64 k ∧ n = xs.length + k ∧ wr.ownsRow B 55 1 v0 n cs ∧ Below B w wr) (fun _ i _ => m - (intOf i).toNat)
      case atStart => exact ⟨0, xs.length, u64s ys, by omega, rfl, rfl, HO.out, hb⟩
      case round =>
        obtain ⟨k2, n, cs, hk2, rfl, hn, hown, hb2⟩ := hrel
        have HO := hid hown
        have hBs : B ≤ wr.heap.size := Nat.le_trans hB hb2.size
        clear hown hb
        by_cases hlt2 : k2 < m
        · go_wp2_with (first
            | (go_at_call 35; refine (clip_any _ _).mono ?_; rintro e w' ⟨rfl, rfl⟩; rw [HMR.out])
            | (at_builtin; refine wpList_append1 rfl (.tmp 27) (.tmp 31) rfl 55 (.int .u64 0) 8 Tryd.underlying22 Tryd.info45 rfl rfl rfl HO.out hBs (by rfl) (by unfold maxLen; omega) (by omega) ?_; intro v' w' ho hb3 _))
          go_roundw
          case rel => exact ⟨k2 + 1, n + 1, _, by omega, by go_num, by omega, ho, hb2.trans hb3⟩
          case measure => simp [intOf]; omega
        · go_wp2_with (go_at_call 35; refine (clip_any _ _).mono ?_; rintro e w' ⟨rfl, rfl⟩; rw [HMR.out])
          go_ret
          exact ⟨⟨_, rfl⟩, hb2⟩
end Go.Proofs.YtinkbgnhigpkeaaDoor
