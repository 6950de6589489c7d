/- Package wire: lists of numbers off the reader. -/
import Derived.Test.YtdlkdiaobbakiaaGreatDoorWireb
import Derived.Test.YtdlkdiaobbakiaaGreatDoorLayI
set_option linter.unusedVariables false
set_option linter.unusedSimpArgs false
set_option linter.unnecessarySimpa false
set_option maxRecDepth 20000
namespace Go.Proofs.YtdlkdiaobbakiaaGreatDoor
open Go.RowKit

/-- the numbers of k bytes each that a list of bytes holds -/
def numL (k : Nat) (bs : List Nat) : List Nat := (List.range (bs.length / k)).map fun i => L.wordOf 8 ((bs.drop (k * i)).take k)
theorem numL_length (k : Nat) (bs : List Nat) : (numL k bs).length = bs.length / k := by simp [numL]
theorem part_lt {bs : List Nat} (h : ∀ x ∈ bs, x < 256) (a b : Nat) : ∀ x ∈ (bs.drop a).take b, x < 256 := fun x hx => h x (List.mem_of_mem_drop (List.mem_of_mem_take hx))
theorem part_le (bs : List Nat) (a b : Nat) : ((bs.drop a).take b).length ≤ b := by rw [List.length_take]; exact Nat.min_le_left _ _
theorem numL_lt {k : Nat} {bs : List Nat} (h : ∀ x ∈ bs, x < 256) (hk : k ≤ 8) : ∀ x ∈ numL k bs, x < 18446744073709551616 := by
  intro x hx
  obtain ⟨i, _, rfl⟩ := List.mem_map.1 hx
  exact wordOf8_lt _ (part_lt h _ _) (Nat.le_trans (part_le bs _ _) hk)
theorem numL4_lt {bs : List Nat} (h : ∀ x ∈ bs, x < 256) : ∀ x ∈ numL 4 bs, x < 4294967296 := by
  intro x hx
  obtain ⟨i, _, rfl⟩ := List.mem_map.1 hx
  exact wordOf4_lt _ (part_lt h _ _) (part_le bs _ _)
/-- the numbers of a list as ints -/
def nI (xs : List Nat) : List Int := xs.map fun x : Nat => (x : Int)

theorem nI_length (xs : List Nat) : (nI xs).length = xs.length := by simp [nI]
theorem nI_append (xs ys : List Nat) : nI (xs ++ ys) = nI xs ++ nI ys := by simp [nI]
theorem rd_part8 {w : World} {b o n cap : Nat} {xs : List Nat} (h : Seg w b o (u8s xs)) (l m : Nat) (hl : xs.length = n) (hlm : l + m ≤ n) (hc : n ≤ cap) (hm : cap ≤ maxLen) :
    Rd w (.slice (some ⟨b, o + l, none⟩) m (cap - l)) ((xs.drop l).take m).length 1 (u8s ((xs.drop l).take m)) := by
  have := Rd.part h l m (by rw [u8s_length]; exact hl) hlm (by omega) hm
  rw [drop_u8s, take_u8s] at this
  have e : ((xs.drop l).take m).length = m := by rw [List.length_take, List.length_drop]; omega
  rw [e]; exact this

set_option maxHeartbeats 2000000 in
theorem U64s_any (w0 w : World) (g : Nat) (xs : List Nat) (s : Bool) (c : Nat) (h : RdrAt w0 w g xs s) (hgs : g < w.heap.size) (hv : ∀ x ∈ xs, x < 256) (hl : xs.length ≤ 1048576) (hc : c ≤ 4294967296) :
    Calls Tryz.prog 68 #[.pointer (some ⟨g, 0, none⟩), .int .i64 c] w fun e w' => ∃ p, w.heap.size ≤ p ∧
      e = .returned (.slice (some ⟨p, 0, none⟩) (numL 8 (tk (8 * c) xs)).length (numL 8 (tk (8 * c) xs)).length) ∧ Row w' p 68 (u64s (numL 8 (tk (8 * c) xs))) ∧
      RdrAt w0 w' g (tkL (8 * c) xs) (tkS (8 * c) xs s) ∧ Chg g g w w' := by
  obtain ⟨ys, hys⟩ : ∃ ys, tk (8 * c) xs = ys := ⟨_, rfl⟩
  have hyl : ys.length ≤ 1048576 := by rw [← hys]; unfold tk; split <;> simp <;> omega
  have hyv : ∀ x ∈ ys, x < 256 := by rw [← hys]; exact tk_lt hv
  have HY := hid hys
  obtain ⟨m, hm⟩ : ∃ m, ys.length / 8 = m := ⟨_, rfl⟩
  rw [hys, numL_length, hm]
  have HM := hid hm
  have hm8 : 8 * m ≤ ys.length := by omega
  clear hys hm
  go_enter Tryz.func68, Tryz.ntmps68
  go_wp2_with (go_at_call 91; refine (Take_any w0 _ g xs s (8 * c) h hl (by omega)).mono ?_; rintro e w1 ⟨t, rfl, hrd, hat, hch⟩; rw [HY.out] at hrd; have HAT := hid hat; have HCH := hid hch; have HRD := hid (hrd.mono (hat.2.1)); obtain ⟨A, ca, rfl, hlc, hcm, hA⟩ := hrd.form; have HA := hid hA; clear hA hrd hat hch)
  refine upon_make 68 (.int .u64 0) 8 Tryz.underlying47 Tryz.info45 rfl m (by have := HM.out; omega) (by have := HM.out; omega) (by omega) (by unfold maxLen; omega) ?_
  intro w2 hrow hb2 hsz2
  have HCH2 : Hid (Chg g g w w2) := hid (HCH.out.trans (Chg.of_below hb2))
  have hg1 : g < w1.heap.size := Nat.lt_of_lt_of_le hgs HCH.out.size
  have HP : Hid (w.heap.size ≤ w1.heap.size) := hid HCH.out.size
  have HAT2 : Hid (RdrAt w0 w2 g (tkL (8 * c) xs) (tkS (8 * c) xs s)) := hid (HAT.out.mono hb2)
  have HRD2 := hid (HRD.out.mono hb2)
  have HROW := hid hrow
  have HB2 := hid hb2
  have hp2 : w1.heap.size < w2.heap.size := by omega
  clear HCH HAT hrow hb2 HRD
  generalize w1.heap.size = p at *
  go_wp2
  go_loopw [18] (fun i wr => ∃ j : Nat, j ≤ m ∧ i = .int .i64 j ∧ Row wr p 68 (u64s ((List.range j).map fun i => L.wordOf 8 ((ys.drop (8 * i)).take 8)) ++ List.replicate (m - j) (.int .u64 0)) ∧ Below p w2 wr ∧ Hid (wr.heap.size = w2.heap.size)) (fun i _ => m - (intOf i).toNat)
  case atStart => exact ⟨0, by omega, rfl, by simpa [u64s] using HROW.out, Below.refl _ _, rfl⟩
  case round =>
    obtain ⟨j, hj, rfl, hr, hb, hz⟩ := hrel
    by_cases hlt : j < m
    · have hcell : wr.cell? ⟨p, j, none⟩ = some (.int .u64 0) := by
        rw [hr.cell]; exact get_fill _ _ _ _ (by simp [u64s]) (by omega)
      have hfr := hr.frozen j
      have HRW := hid hr
      have hHA := HA.out (by omega)
      obtain ⟨b, o, rfl, hs⟩ := hHA
      have hsw : Seg wr b o (u8s ys) := hs.mono (HAT2.out.2.1.trans (hb.mono (by have := HAT2.out.1; have := hgs; have := HP.out; omega)))
      have HPART := hid (rd_part8 hsw (8 * j) 8 rfl (by omega) hlc hcm)
      clear hr hs HA hsw
      have hw8 := wordOf8_lt _ (part_lt hyv (8 * j) 8) (part_le ys (8 * j) 8)
      obtain ⟨x, hx⟩ : ∃ x, L.wordOf 8 ((ys.drop (8 * j)).take 8) = x := ⟨_, rfl⟩
      rw [hx] at hw8
      have HX := hid hx
      clear hx
      go_wp2_with (go_at_call 90; refine (number_any _ ((ys.drop (8 * j)).take 8) _ HPART.out (Nat.le_trans (part_le ys _ _) (by omega)) (part_lt hyv _ _)).mono ?_; rintro e w3 ⟨rfl, hw⟩; subst hw; rw [HX.out])
      go_roundw
      case rel =>
        refine ⟨j + 1, by omega, by go_num, ?_, below_set hb _ _ _ (Nat.le_refl _), ?_⟩
        · have hss := HRW.out.set j (.int .u64 (x : Nat))
          rw [set_fill _ _ _ _ _ (by simp [u64s]) (by omega)] at hss
          rw [List.range_succ, List.map_append, u64s_append, List.map_singleton, HX.out, ← Nat.sub_sub m j 1]
          exact hss
        · show _ = _; rw [← hz.out]; simp [World.setCell]
      case measure => simp [intOf]; omega
    · obtain rfl : j = m := by omega
      go_wp2
      go_ret
      refine ⟨p, HP.out, rfl, ?_, ⟨HAT2.out.1, ?_, ?_⟩, ?_⟩
      · have := hr
        rw [Nat.sub_self, List.replicate_zero, List.append_nil] at this
        unfold numL
        rw [HM.out]; exact this
      · exact HAT2.out.2.1.trans (hb.mono (by have := HAT2.out.1; have := HP.out; omega))
      · obtain ⟨v, hv1, hv2⟩ := HAT2.out.row
        exact ⟨v, by unfold Row; rw [hb.block g hg1]; exact hv1, hv2⟩
      · exact HCH2.out.then_below hb HP.out
set_option maxHeartbeats 2000000 in
theorem U32s_any (w0 w : World) (g : Nat) (xs : List Nat) (s : Bool) (c : Nat) (h : RdrAt w0 w g xs s) (hgs : g < w.heap.size) (hv : ∀ x ∈ xs, x < 256) (hl : xs.length ≤ 1048576) (hc : c ≤ 4294967296) :
    Calls Tryz.prog 134 #[.pointer (some ⟨g, 0, none⟩), .int .i64 c] w fun e w' => ∃ p, w.heap.size ≤ p ∧
      e = .returned (.slice (some ⟨p, 0, none⟩) (numL 4 (tk (4 * c) xs)).length (numL 4 (tk (4 * c) xs)).length) ∧ Row w' p 3 (i64s (nI (numL 4 (tk (4 * c) xs)))) ∧
      RdrAt w0 w' g (tkL (4 * c) xs) (tkS (4 * c) xs s) ∧ Chg g g w w' := by
  obtain ⟨ys, hys⟩ : ∃ ys, tk (4 * c) xs = ys := ⟨_, rfl⟩
  have hyl : ys.length ≤ 1048576 := by rw [← hys]; unfold tk; split <;> simp <;> omega
  have hyv : ∀ x ∈ ys, x < 256 := by rw [← hys]; exact tk_lt hv
  have HY := hid hys
  obtain ⟨m, hm⟩ : ∃ m, ys.length / 4 = m := ⟨_, rfl⟩
  rw [hys, numL_length, hm]
  have HM := hid hm
  have hm8 : 4 * m ≤ ys.length := by omega
  clear hys hm
  go_enter Tryz.func134, Tryz.ntmps134
  go_wp2_with (go_at_call 91; refine (Take_any w0 _ g xs s (4 * c) h hl (by omega)).mono ?_; rintro e w1 ⟨t, rfl, hrd, hat, hch⟩; rw [HY.out] at hrd; have HAT := hid hat; have HCH := hid hch; have HRD := hid (hrd.mono (hat.2.1)); obtain ⟨A, ca, rfl, hlc, hcm, hA⟩ := hrd.form; have HA := hid hA; clear hA hrd hat hch)
  refine upon_make 3 (.int .i64 0) 8 Tryz.underlying23 Tryz.infoI64 rfl m (by have := HM.out; omega) (by have := HM.out; omega) (by omega) (by unfold maxLen; omega) ?_
  intro w2 hrow hb2 hsz2
  have HCH2 : Hid (Chg g g w w2) := hid (HCH.out.trans (Chg.of_below hb2))
  have hg1 : g < w1.heap.size := Nat.lt_of_lt_of_le hgs HCH.out.size
  have HP : Hid (w.heap.size ≤ w1.heap.size) := hid HCH.out.size
  have HAT2 : Hid (RdrAt w0 w2 g (tkL (4 * c) xs) (tkS (4 * c) xs s)) := hid (HAT.out.mono hb2)
  have HRD2 := hid (HRD.out.mono hb2)
  have HROW := hid hrow
  have HB2 := hid hb2
  have hp2 : w1.heap.size < w2.heap.size := by omega
  clear HCH HAT hrow hb2 HRD
  generalize w1.heap.size = p at *
  go_wp2
  go_loopw [18] (fun i wr => ∃ j : Nat, j ≤ m ∧ i = .int .i64 j ∧ Row wr p 3 (i64s (nI ((List.range j).map fun i => L.wordOf 8 ((ys.drop (4 * i)).take 4))) ++ List.replicate (m - j) (.int .i64 0)) ∧ Below p w2 wr ∧ Hid (wr.heap.size = w2.heap.size)) (fun i _ => m - (intOf i).toNat)
  case atStart => exact ⟨0, by omega, rfl, by simpa [i64s, nI] using HROW.out, Below.refl _ _, rfl⟩
  case round =>
    obtain ⟨j, hj, rfl, hr, hb, hz⟩ := hrel
    by_cases hlt : j < m
    · have hcell : wr.cell? ⟨p, j, none⟩ = some (.int .i64 0) := by
        rw [hr.cell]; exact get_fill _ _ _ _ (by simp [i64s, nI]) (by omega)
      have hfr := hr.frozen j
      have HRW := hid hr
      have hHA := HA.out (by omega)
      obtain ⟨b, o, rfl, hs⟩ := hHA
      have hsw : Seg wr b o (u8s ys) := hs.mono (HAT2.out.2.1.trans (hb.mono (by have := HAT2.out.1; have := hgs; have := HP.out; omega)))
      have HPART := hid (rd_part8 hsw (4 * j) 4 rfl (by omega) hlc hcm)
      clear hr hs HA hsw
      have hw8 := wordOf4_lt _ (part_lt hyv (4 * j) 4) (part_le ys (4 * j) 4)
      obtain ⟨x, hx⟩ : ∃ x, L.wordOf 8 ((ys.drop (4 * j)).take 4) = x := ⟨_, rfl⟩
      rw [hx] at hw8
      have HX := hid hx
      clear hx
      go_wp2_with (go_at_call 90; refine (number_any _ ((ys.drop (4 * j)).take 4) _ HPART.out (Nat.le_trans (part_le ys _ _) (by omega)) (part_lt hyv _ _)).mono ?_; rintro e w3 ⟨rfl, hw⟩; subst hw; rw [HX.out])
      go_roundw
      case rel =>
        refine ⟨j + 1, by omega, by go_num, ?_, below_set hb _ _ _ (Nat.le_refl _), ?_⟩
        · have hss := HRW.out.set j (.int .i64 (x : Nat))
          rw [set_fill _ _ _ _ _ (by simp [i64s, nI]) (by omega)] at hss
          rw [List.range_succ, List.map_append, List.map_singleton, nI_append, i64s_append, HX.out, ← Nat.sub_sub m j 1]
          exact hss
        · show _ = _; rw [← hz.out]; simp [World.setCell]
      case measure => simp [intOf]; omega
    · obtain rfl : j = m := by omega
      go_wp2
      go_ret
      refine ⟨p, HP.out, rfl, ?_, ⟨HAT2.out.1, ?_, ?_⟩, ?_⟩
      · have := hr
        rw [Nat.sub_self, List.replicate_zero, List.append_nil] at this
        unfold numL
        rw [HM.out]; exact this
      · exact HAT2.out.2.1.trans (hb.mono (by have := HAT2.out.1; have := HP.out; omega))
      · obtain ⟨v, hv1, hv2⟩ := HAT2.out.row
        exact ⟨v, by unfold Row; rw [hb.block g hg1]; exact hv1, hv2⟩
      · exact HCH2.out.then_below hb HP.out
end Go.Proofs.YtdlkdiaobbakiaaGreatDoor
