/- Package chunk: chosen goes through the numbers of the values that a selection chooses (strings). -/
import Derived.RangeFuncNested
import Derived.RangeFuncBound
import Derived.RangeFuncCalls
import Derived.RangeFuncLeaves
import Derived.Shelf.Abstract
import Derived.Shelf.RegionOpen
import Derived.WalkKit
import Derived.OwnWalkIn
import Derived.TacticsInMore
import Derived.LoopNIn
import Derived.LoopIn
import Derived.Test.YthonbfojpbfmgaaGreatDoorLawfoldsplitB22
import Derived.Test.YthonbfojpbfmgaaGreatDoorLawfoldsplitB10
import Derived.Test.YthonbfojpbfmgaaGreatDoorLawfoldsplitB4
import Derived.Test.YthonbfojpbfmgaaGreatDoorLawfoldsplitB15
import Derived.Deep.QuietTactic
import Derived.Test.YthonbfojpbfmgaaGreatDoorLawfoldsplitB24
set_option linter.unusedVariables false
set_option linter.unusedSimpArgs false
set_option linter.unnecessarySimpa false
set_option maxRecDepth 100000
namespace Go.Proofs.YthonbfojpbfmgaaGreatDoor
open Go.RowKit Go.Shelf
attribute [local go_sem] Oper.semAt_some

set_option maxHeartbeats 8000000 in
theorem chosen_gives_S (wc : World) (g rows codec wd : Nat) (nulls : List Nat) (count : Int) (list : List ByteArray) (ends : List Nat) (base : Int) (lanes : List Nat) (hk : Ck_S wc g rows codec wd nulls count list ends base lanes) (hbm : nulls.length = (rows + 63) / 64) (hnv : ∀ x ∈ nulls, x < 18446744073709551616) (hrr : rows ≤ 65536)
    (sv : Value) (sel : List Nat) (hs : Rd wc sv sel.length 1 (u64s sel)) (hsv : ∀ x ∈ sel, x < 18446744073709551616) (hsl : sel.length = (rows + 63) / 64) (hsr : ∀ r, bitOf sel r = true → r < rows) (hT : Tab wc)
    (w0 : World) (hw : Below wc.heap.size wc w0) (U : Nat → Prop) (hU : ∀ k, k < wc.heap.size → U k) (sb cb : Nat) (hsb : sb < w0.heap.size) (hcb : cb < w0.heap.size) (hUs : U sb) (hUc : U cb) (hcs : w0.cell? ⟨sb, 0, none⟩ = some sv) (hcc : w0.cell? ⟨cb, 0, none⟩ = some (.pointer (some ⟨g, 0, none⟩))) :
    Gives Tryz.prog 166 #[.pointer (some ⟨sb, 0, none⟩), .pointer (some ⟨cb, 0, none⟩)] (fun j : Nat => #[Value.int .i64 (j : Int)]) U (chosenN sel nulls (64 * sel.length)) w0 := by
  intro l J W hW hJ hY h0
  have HTL := hid hT.lt
  have hsz : w0.heap.size ≤ W.heap.size := hW.size
  have HCL : Hid (wc.heap.size ≤ w0.heap.size) := hid hw.size
  -- what is known of a world between two rounds
  have HCH := hid (fun (w1 : World) (hm : Mid U W.heap.size W w1) => (show Below wc.heap.size wc w1 from (hw.trans (hW.mono hw.size)).trans (hm.below (by have := hw.size; have := hW.size; omega) hU)))
  have HCB := hid (fun (w1 : World) (hm : Mid U W.heap.size W w1) => (show w1.cell? ⟨cb, 0, none⟩ = some (.pointer (some ⟨g, 0, none⟩)) from by
    rw [cell_at (hm.keep cb (Nat.lt_of_lt_of_le hcb hW.size) (.inl hUc)), cell_at (hW.block cb hcb)]; exact hcc))
  have hcsW : W.cell? ⟨sb, 0, none⟩ = some sv := by rw [cell_at (hW.block sb hsb)]; exact hcs
  have HNM := hid (fun (w1 : World) (hb : Below wc.heap.size wc w1) (r : Nat) (hr : r < rows) => number_S w1 g rows codec wd nulls count list ends base lanes r (hk.mono hb) hbm hnv hrr hr)
  have HTZ := hid (fun (w1 : World) (hb : Below wc.heap.size wc w1) (z : Nat) (h0 : z ≠ 0) (h : z < 18446744073709551616) => trailingZeros_any z w1 h0 h (hT.mono hb hT.lt))
  have HRS := hid (fun (w1 : World) (hb : Below wc.heap.size wc w1) => hs.mono hb)
  obtain ⟨nu, lv, ev, nv, bef, q1, q2, q3, q4, q5, q6⟩ := hk.ex
  have HRN := hid (fun (w1 : World) (hb : Below wc.heap.size wc w1) => q2.mono hb)
  have HRW := hid (fun (w1 : World) (hb : Below wc.heap.size wc w1) => q1.mono hb)
  have HSV := hid hsv; have HNV := hid hnv; have HSR := hid hsr; have HY := hid hY
  have HBM := hid hbm
  obtain ⟨A1, c1, rfl, hsc1, hsc2, _⟩ := hs.form
  obtain ⟨A2, c2, rfl, _, _, _⟩ := q2.form
  clear hk hs hT hw hU hUs hUc hcc hcs hsv hnv hsr hY q1 q2 q3 q4 q5 q6
  obtain ⟨n, hn⟩ : ∃ n, sel.length = n := ⟨_, rfl⟩
  have HN := hid hn
  rw [hn] at hsl hcsW hsc1 ⊢
  have hnn : nulls.length = n := by rw [hbm, hsl]
  have HSL := hid hsl
  have hn6 : n ≤ 1100 := by omega
  have HNN := hid hnn
  rw [hnn] at HRW
  simp only [hn] at HRS
  clear hn hnn hbm hsl
  refine (callsIn_wide (n := 9)).1 ?_
  refine callsIn_of_wp Tryz.func166 rfl trivial ?_ rfl
  simp only [Tryz.ntmps166, List.size_toArray, List.length_cons, List.length_nil, Nat.reduceAdd, Nat.reduceSub, Array.replicate_succ, Array.replicate_zero, List.push_toArray, List.append_toArray, List.nil_append, List.cons_append]
  gi_wp2
  gi_loopw [8] (fun i wr => ∃ k : Nat, k ≤ n ∧ i = .int .i64 k ∧ Hid (J (chosenN sel nulls (64 * k)) wr) ∧ Hid (Mid U W.heap.size W wr)) (fun i _ => n - (intOf i).toNat)
  case atStart => exact ⟨0, Nat.zero_le _, rfl, hid h0, hid (Mid.refl _ _ _)⟩
  case round =>
    obtain ⟨k, hk, rfl, HJ, HM⟩ := hrel
    have HBC := hid (HCH.out wr HM.out)
    have hcb := HCB.out wr HM.out
    by_cases hlt : k < n
    · obtain ⟨b1, o1, rfl, hs1⟩ := (HRS.out wr HBC.out).at (by omega)
      obtain ⟨b2, o2, rfl, hs2⟩ := (HRN.out wr HBC.out).at (by rw [HNN.out]; omega)
      have x1 := hs1.word k (by rw [HN.out]; exact hlt)
      have x2 := hs2.word k (by rw [HNN.out]; exact hlt)
      have x3 : wr.cell? ⟨g, 3, none⟩ = some (.slice (some ⟨b2, o2, none⟩) n c2) := by rw [(HRW.out wr HBC.out).cell]; rfl
      have hv1 : sel.getD k 0 < 18446744073709551616 := HSV.out _ (by simp [List.getD, List.getElem?_eq_getElem (show k < sel.length by rw [HN.out]; exact hlt)])
      have hv2 : nulls.getD k 0 < 18446744073709551616 := HNV.out _ (by simp [List.getD, List.getElem?_eq_getElem (show k < nulls.length by rw [HNN.out]; exact hlt)])
      have han := u64_andNot_nat' (sel.getD k 0) (nulls.getD k 0) hv1 hv2
      have hcg := cmb_get sel nulls k (by rw [HN.out]; exact hlt)
      have HF := hid (rest_first (cmb sel nulls) k (cmb_lt sel nulls) (by rw [cmb_len, HN.out]; exact hlt))
      rw [hcg] at HF
      clear hs1 hs2 hcg hv1 hv2
      generalize sel.getD k 0 &&& (L.M64 - nulls.getD k 0) = y0 at *
      generalize sel.getD k 0 = x at *
      generalize nulls.getD k 0 = xn at *
      gi_wp2
      gi_loopw [5] (fun y wq => ∃ (t z : Nat), y = .int .u64 z ∧ Hid (Rest (cmb sel nulls) k t z) ∧ Hid (J (chosenN sel nulls (64 * k + t)) wq) ∧ Hid (Mid U W.heap.size W wq)) (fun y _ => (intOf y).toNat)
      case atStart => exact ⟨0, y0, rfl, HF, by simpa using HJ, HM⟩
      case round =>
        obtain ⟨t, z, rfl, HRST, HJ2, HM2⟩ := hrel
        have hz64 : z < 18446744073709551616 := HRST.out.2.1
        by_cases hz : z = 0
        · have hze : ((z : Int) != 0) = false := by simpa using hz
          have HZ := hid hz
          clear hz
          gi_wp2
          go_roundw
          case rel =>
            refine ⟨k + 1, by omega, by go_num, hid ?_, HM2⟩
            have := rest_zero (by rw [← HZ.out]; exact HRST.out)
            unfold chosenN
            rw [this]
            exact HJ2.out
          case measure => simp [intOf]; omega
        · have hze : ((z : Int) != 0) = true := by simpa using hz
          have HNX := hid (rest_next HRST.out hz)
          have hz1 : IntKind.u64.wrap ((z : Int) - 1) = ((z - 1 : Nat) : Int) := by rw [IntKind.wrap_u64]; omega
          have hz2 := u64_and_nat z (z - 1) hz64 (by omega)
          have hc64 := HNX.out.2.2.1
          have hzlt := HNX.out.2.2.2
          have HBQ := hid (HCH.out wr HM2.out)
          have hcq := HCB.out wr HM2.out
          have HTC := hid (fun (w2 : World) (hb : Below wr.heap.size wr w2) => HTZ.out w2 (HBQ.out.trans (hb.mono (Nat.le_trans (Nat.le_trans HCL.out hsz) HM2.out.low.size))) z hz hz64)
          generalize Lib.ctz 64 z = c at *
          have hin : 64 * k + c ∈ idxN (cmb sel nulls) (64 * k + (c + 1)) := by rw [HNX.out.1]; simp
          obtain ⟨_, hbt⟩ := idx_lt _ _ _ hin
          rw [cmb_bit sel nulls HNV.out, Bool.and_eq_true, Bool.not_eq_true'] at hbt
          have hr := HSR.out _ hbt.1
          have HNC := hid (fun (w2 : World) (hb : Below wr.heap.size wr w2) => HNM.out w2 (HBQ.out.trans (hb.mono (Nat.le_trans (Nat.le_trans HCL.out hsz) HM2.out.low.size))) (64 * k + c) hr)
          have hrk : rankN nulls (64 * k + c + 1) = rankN nulls (64 * k + c) := by rw [rankN_succ, hbt.2]; simp
          have hrl : rankN nulls (64 * k + c) ≤ 64 * k + c := by unfold rankN; have := List.length_filter_le (bitOf nulls) (List.range (64 * k + c)); rwa [List.length_range] at this
          obtain ⟨j, hj⟩ : ∃ j, 64 * k + c - rankN nulls (64 * k + c + 1) = j := ⟨_, rfl⟩
          have hji : (((64 * k + c : Nat) : Int) - ((rankN nulls (64 * k + c + 1) : Nat) : Int)) = (j : Int) := by omega
          rw [hji, show ((64 * k + c : Nat) : Int) = 64 * (k : Int) + (c : Int) by omega] at HNC
          have hch : chosenN sel nulls (64 * k + (c + 1)) = chosenN sel nulls (64 * k + t) ++ [j] := by
            unfold chosenN
            rw [HNX.out.1, List.map_append, List.map_cons, List.map_nil, hj]
          have hpre : chosenN sel nulls (64 * k + t) ++ [j] <+: chosenN sel nulls (64 * sel.length) := by rw [← hch, HN.out]; exact chosenN_prefix _ _ (by omega)
          have HYR := hid (fun (w2 : World) (hb : Below wr.heap.size wr w2) => HY.out _ j w2 hpre (hJ _ _ _ HJ2.out (hb.mono HM2.out.low.size)) (Nat.le_trans HM2.out.low.size hb.size) (HM2.out.trans (Mid.of_below hb)))
          have HCHN := hid hch
          clear hin hbt hr hrk hrl hj hji hpre hch hz
          have hmx : Tryz.prog.follows .mixedOrders = true := by kernel_rfl
          have hw1 : IntKind.i64.wrap (64 * (k : Int)) = 64 * (k : Int) := by rw [IntKind.wrap_i64]; omega
          have hw2 : IntKind.i64.wrap (64 * (k : Int) + (c : Int)) = 64 * (k : Int) + (c : Int) := by rw [IntKind.wrap_i64]; omega
          gi_wp2
          gi_region_with_o (first
            | (refine ⟨trivial, ?_⟩; gi_at_call 148; refine (callsIn_wide.2 (HTC.out _ (bdrew (brefl wr) 1))).mono ?_; rintro e w3 ⟨rfl, hw3⟩; subst hw3)
            | (refine ⟨trivial, ?_⟩; gi_at_call 167; refine (callsIn_wide.2 (HNC.out _ (bdrew (brefl wr) 1))).mono ?_; rintro e w4 ⟨rfl, hb4⟩; have HB4 : Hid (Below wr.heap.size wr w4) := hid (bthen (bdrew (brefl wr) 1) hb4); obtain ⟨fn, tmps, assign, body, hy, hR⟩ := yield_any (m' := 8) (HYR.out w4 HB4.out); clear hb4)
            | (refine hR.mono ?_; rintro e w5 ⟨rfl, hj5, hm5⟩; have HJ5 := hid hj5; have HM5 := hid (HM2.out.trans ((Mid.of_below HB4.out).trans hm5)); clear hj5 hm5))
          all_goals gi_wp2
          all_goals go_roundw
          all_goals first
            | exact ⟨c + 1, _, rfl, hid HNX.out.2.1, hid (by rw [HCHN.out]; exact HJ5.out), HM5⟩
            | (simp [intOf]; omega)
    · obtain rfl : k = n := by omega
      gi_wp2
      go_end0
      exact ⟨⟨_, rfl⟩, HJ.out, HM.out⟩
end Go.Proofs.YthonbfojpbfmgaaGreatDoor

/- Package chunk: chosen, tallyCodes (strings). -/
set_option linter.unusedVariables false
set_option linter.unusedSimpArgs false
set_option linter.unnecessarySimpa false
set_option maxRecDepth 100000
namespace Go.Proofs.YthonbfojpbfmgaaGreatDoor
open Go.RowKit Go.Shelf
attribute [local go_sem] Oper.semAt_some

theorem chosen_S (w : World) (g : Nat) (A : Option Addr) (n c : Nat) : Calls Tryz.prog 122 #[.pointer (some ⟨g, 0, none⟩), .slice A n c] w fun e w' =>
    e = .returned (.func (.func 166) #[] #[.pointer (some ⟨w.heap.size + 1, 0, none⟩), .pointer (some ⟨w.heap.size, 0, none⟩)]) ∧ w' = (w.alloc (.cells #[.pointer (some ⟨g, 0, none⟩)] 104)).alloc (.cells #[.slice A n c] 28) := by
  go_enter Tryz.func122, Tryz.ntmps122
  go_wp2_with fail
  go_ret
  exact ⟨rfl, rfl⟩
set_option maxHeartbeats 8000000 in
theorem tallyCodes_S (w : World) (g rows codec wd : Nat) (nulls : List Nat) (count : Int) (list : List ByteArray) (ends : List Nat) (base : Int) (lanes : List Nat) (hk : Ck_S w g rows codec wd nulls count list ends base lanes) (hbm : nulls.length = (rows + 63) / 64) (hnv : ∀ x ∈ nulls, x < 18446744073709551616) (hrr : rows ≤ 65536)
    (sv : Value) (sel : List Nat) (hs : Rd w sv sel.length 1 (u64s sel)) (hsv : ∀ x ∈ sel, x < 18446744073709551616) (hsl : sel.length = (rows + 63) / 64) (hsr : ∀ r, bitOf sel r = true → r < rows) (hT : Tab w)
    (hll : list.length ≤ 16777216) (hlv : ∀ x ∈ lanes, x < 18446744073709551616) (hwd : wd ≤ 64) (hja : ∀ j ∈ chosenN sel nulls (64 * sel.length), j ≤ 65536 ∧ L.laneOf wd lanes j < list.length ∧ (0 < wd → j / (64 / wd) < lanes.length)) :
    Calls Tryz.prog 120 #[.pointer (some ⟨g, 0, none⟩), sv] w fun e w' => ∃ gc, e = .returned (.slice (some ⟨gc, 0, none⟩) list.length list.length) ∧ w.heap.size ≤ gc ∧
      Row w' gc 3 (ints (cntsL (L.laneOf wd lanes) (chosenN sel nulls (64 * sel.length)) list.length)) ∧ Below w.heap.size w w' := by
  obtain ⟨s, hsz⟩ : ∃ s, w.heap.size = s := ⟨_, rfl⟩
  have hgs : g < s := by obtain ⟨_, _, _, _, _, h1, _⟩ := hk.ex; rw [← hsz]; exact h1.lt
  have HCK := hid (fun (w1 : World) (hb : Below w.heap.size w w1) => hk.mono hb)
  have HLN := hid (fun (w1 : World) (hb : Below w.heap.size w w1) (j : Nat) (hj : j ∈ chosenN sel nulls (64 * sel.length)) => by
    obtain ⟨nu, lv, ev, nv, bef, q1, q2, q3, q4, q5, q6⟩ := (hk.mono hb).ex
    exact lane_S w1 g rows codec wd nu count lv ev base nv _ bef lanes j q1 q5 hlv hwd (hja j hj).1 (hja j hj).2.2)
  have HJA := hid hja
  have HGV := hid (fun (w0 : World) (hb : Below w.heap.size w w0) (U : Nat → Prop) (hU : ∀ k, k < w.heap.size → U k) (sb cb : Nat) (h1 : sb < w0.heap.size) (h2 : cb < w0.heap.size) (h3 : U sb) (h4 : U cb) (h5 : w0.cell? ⟨sb, 0, none⟩ = some sv) (h6 : w0.cell? ⟨cb, 0, none⟩ = some (.pointer (some ⟨g, 0, none⟩))) =>
    chosen_gives_S w g rows codec wd nulls count list ends base lanes hk hbm hnv hrr sv sel hs hsv hsl hsr hT w0 hb U hU sb cb h1 h2 h3 h4 h5 h6)
  obtain ⟨nu, lv, ev, nv, bef, q1, q2, q3, q4, q5, q6⟩ := hk.ex
  have HQ1 := hid q1
  obtain ⟨Al, cl, rfl, _, _, _⟩ := q3.form
  obtain ⟨As, cs, rfl, _, _, _⟩ := hs.form
  have hjl := chosenN_len sel nulls (64 * sel.length)
  have hjl2 : (chosenN sel nulls (64 * sel.length)).length ≤ 70000 := by omega
  clear hk hbm hnv hs hsv hsl hsr hT hlv hja q1 q2 q3 q4 q5 q6 hjl
  generalize chosenN sel nulls (64 * sel.length) = js at *
  generalize sel.length = sn at *
  obtain ⟨m, hm⟩ : ∃ m, list.length = m := ⟨_, rfl⟩
  have HM := hid hm
  simp only [hm] at hll HQ1 HJA ⊢
  rw [hsz] at HCK HLN HGV ⊢
  have HSZ := hid hsz
  clear hm
  have HQB : Hid (∀ w1 : World, Below s w w1 → w1.cell? ⟨g, 5, none⟩ = some (.slice Al m cl)) := hid (fun w1 hb => by rw [(HQ1.out.mono (by rw [hsz]; exact hb)).cell]; rfl)
  refine (callsIn_wide (n := 9)).1 ?_
  refine callsIn_of_wp_marks Tryz.func120 rfl trivial ?_ rfl
  simp only [Tryz.ntmps120, List.size_toArray, List.length_cons, List.length_nil, Nat.reduceAdd, Nat.reduceSub, Array.replicate_succ, Array.replicate_zero, List.push_toArray, List.append_toArray, List.nil_append, List.cons_append]
  refine wpIn_wide.2 ?_
  have hb1 : Below s w (w.alloc (.cells #[.pointer (some ⟨g, 0, none⟩)] 104)) := by rw [← hsz]; exact (brefl w).alloc (Nat.le_refl _) _
  have c5 := HQB.out _ hb1
  have hr1 : Row (w.alloc (.cells #[.pointer (some ⟨g, 0, none⟩)] 104)) s 104 [.pointer (some ⟨g, 0, none⟩)] := by rw [← hsz]; unfold Row; rw [heap_alloc_new]
  have hs1 : (w.alloc (.cells #[.pointer (some ⟨g, 0, none⟩)] 104)).heap.size = s + 1 := by simp [hsz]
  have HB1 := hid hb1; have HR1 := hid hr1; have HS1 := hid hs1
  clear hb1 hr1 hs1
  go_upto_region 1 with fail
  generalize w.alloc (.cells #[.pointer (some ⟨g, 0, none⟩)] 104) = w1 at *
  have d0 := HR1.out.cell 0
  simp only [List.getElem?_cons_zero] at d0
  go_wp2
  refine upon_make 3 (.int .i64 0) 8 Tryz.underlying92 Tryz.infoI64 rfl m (by omega) (by omega) (by omega) (by unfold maxLen; omega) ?_
  intro w2 hrow hb2 hsz2
  rw [HS1.out] at hrow hsz2 ⊢
  have HROW := hid hrow
  have hs1 := HS1.out
  have HB2 := hid (HB1.out.trans (hb2.mono (by omega)))
  have HR2 := hid (HR1.out.below hb2 (by omega))
  clear hrow hb2 d0 HR1 HB1 c5
  go_upto_region 2 with fail
  have HA3 := hid ((brefl w2).alloc (Nat.le_refl _) (.cells #[.slice (some ⟨s + 1, 0, none⟩) m m] 92))
  have HC3 : Hid (Row (w2.alloc (.cells #[.slice (some ⟨s + 1, 0, none⟩) m m] 92)) (s + 1 + 1) 92 [.slice (some ⟨s + 1, 0, none⟩) m m]) := hid (by rw [← hsz2]; unfold Row; rw [heap_alloc_new])
  have hs3 : (w2.alloc (.cells #[.slice (some ⟨s + 1, 0, none⟩) m m] 92)).heap.size = s + 1 + 1 + 1 := by simp [hsz2]
  have HS3 := hid hs3
  have HR3 := hid (HR2.out.mono HA3.out)
  have HN3 := hid (HROW.out.mono HA3.out)
  have HB3 := hid (HB2.out.trans (HA3.out.mono (by omega)))
  clear HR2 HROW HB2 HA3 hs3
  generalize w2.alloc (.cells #[.slice (some ⟨s + 1, 0, none⟩) m m] 92) = w3 at *
  clear hsz2
  have d0 := HR3.out.cell 0
  simp only [List.getElem?_cons_zero] at d0
  have HCO := hid (chosen_S w3 g As sn cs)
  have HA4 := hid ((((brefl w3).alloc (Nat.le_refl _) (.cells #[.pointer (some ⟨g, 0, none⟩)] 104))).alloc (by simp) (.cells #[.slice As sn cs] 28))
  have HZ4 : Hid (((w3.alloc (.cells #[.pointer (some ⟨g, 0, none⟩)] 104)).alloc (.cells #[.slice As sn cs] 28)).heap.size = s + 5) := hid (by have := HS3.out; simp; omega)
  have HP4 : Hid (((w3.alloc (.cells #[.pointer (some ⟨g, 0, none⟩)] 104)).alloc (.cells #[.slice As sn cs] 28)).cell? ⟨s + 1 + 1 + 1, 0, none⟩ = some (.pointer (some ⟨g, 0, none⟩))) := hid (by rw [← HS3.out]; simp)
  have HQ4 : Hid (((w3.alloc (.cells #[.pointer (some ⟨g, 0, none⟩)] 104)).alloc (.cells #[.slice As sn cs] 28)).cell? ⟨s + 1 + 1 + 1 + 1, 0, none⟩ = some (.slice As sn cs)) := hid (by rw [← HS3.out]; simp)
  rw [HS3.out] at HCO
  go_wp2_with (go_at_call 122; refine HCO.out.mono ?_; rintro e w4 ⟨rfl, hw4⟩; rw [← hw4] at HA4 HZ4 HP4 HQ4; clear hw4)
  have HR4 := hid (HR3.out.mono HA4.out)
  have HN4 := hid (HN3.out.mono HA4.out)
  have HC4 := hid (HC3.out.mono HA4.out)
  have HB4 := hid (HB3.out.trans (HA4.out.mono (by have := HS3.out; omega)))
  clear HR3 HN3 HC3 HB3 HA4 HCO HS3 HS1 d0
  have hz4 := HZ4.out
  refine wpIn_wide.1 (range_all (n := 9) rfl (gf := 166) (lb := #[.pointer (some ⟨s + 1 + 1 + 1 + 1, 0, none⟩), .pointer (some ⟨s + 1 + 1 + 1, 0, none⟩)]) rfl (enters_of Tryz.func166 (by kernel_rfl) rfl)
    (HGV.out w4 HB4.out (fun k => k < s ∨ k = s + 3 ∨ k = s + 4) (fun k hk => .inl hk) _ _ (by omega) (by omega) (.inr (.inr rfl)) (.inr (.inl rfl)) HQ4.out HP4.out) (brefl w4) (fun k hk => by omega) (fun _ => rfl)
    (fun pre W => Row W s 104 [.pointer (some ⟨g, 0, none⟩)] ∧ Row W (s + 1) 3 (ints (cntsL (L.laneOf wd lanes) pre m)) ∧ Row W (s + 1 + 1) 92 [.slice (some ⟨s + 1, 0, none⟩) m m] ∧ Below s w W)
    (fun pre A B h hb => ⟨h.1.below hb (by omega), h.2.1.below hb (by omega), h.2.2.1.below hb (by omega), h.2.2.2.trans (hb.mono (by omega))⟩)
    ⟨HR4.out, by rw [cntsL_nil]; exact HN4.out, HC4.out, HB4.out⟩
    (fun x => { tmps := #[.pointer (some ⟨g, 0, none⟩), .slice As sn cs, .pointer (some ⟨s, 0, none⟩), undef, .slice none 0 0, .pointer (some ⟨s + 1 + 1, 0, none⟩), .int .i64 (x : Int), .pointer (some ⟨g, 0, none⟩), .pointer (some ⟨g, 0, none⟩), .pointer (some ⟨g, 5, none⟩), .slice Al m cl, .int .i64 (m : Int), .slice (some ⟨s + 1, 0, none⟩) m m, .pointer (some ⟨g, 0, none⟩), .slice As sn cs, .func (.func 166) #[] #[.pointer (some ⟨s + 1 + 1 + 1 + 1, 0, none⟩), .pointer (some ⟨s + 1 + 1 + 1, 0, none⟩)], .int .i64 (x : Int), undef, undef, undef, undef, undef, undef, undef, undef, undef], defers := [] }) ?assign ?body ?done)
  case assign =>
    intro l x W K hK
    gi_wp2
    exact hK
  case body =>
    rintro l pre x W hpre ⟨r1, r2, r3, hbW⟩ hsW hmW
    obtain ⟨hmem, hpl⟩ := mem_prefix hpre
    obtain ⟨hx1, hx2, _⟩ := HJA.out x hmem
    have HLX := hid (fun (w9 : World) (hb : Below s w w9) => HLN.out w9 hb x hmem)
    have HSN := hid (cntsL_snoc (L.laneOf wd lanes) pre m x hx2)
    have hcl := cntOfF_le (L.laneOf wd lanes) pre (L.laneOf wd lanes x)
    have y1 := r2.cell (L.laneOf wd lanes x)
    rw [ints_cell _ _ (by rw [cntsL_len]; exact hx2), cntsL_get _ _ _ _ hx2] at y1
    have yf := r2.frozen (L.laneOf wd lanes x)
    have y2 := r3.cell 0
    have y3 := r1.cell 0
    simp only [List.getElem?_cons_zero] at y2 y3
    have HR1 := hid r1; have HR2 := hid r2; have HR3 := hid r3; have HBW := hid hbW
    have hxi : ((L.laneOf wd lanes x : Nat) : Int) < (m : Int) := by omega
    generalize cntOfF (L.laneOf wd lanes) pre (L.laneOf wd lanes x) = cn at *
    generalize hlx : L.laneOf wd lanes x = ln at *
    have hcn : cn ≤ 70000 := by omega
    have hmx : Tryz.prog.follows .mixedOrders = true := by kernel_rfl
    clear r1 r2 r3 hbW hlx
    gi_wp2
    gi_region_with_o (refine ⟨trivial, ?_⟩; gi_at_call 165; refine (CallsIn.inRound l (callsIn_wide.2 (HLX.out _ (Go.below_drewN HBW.out 1)))).mono ?_; rintro e w5 ⟨rfl, nd, rfl⟩)
    all_goals gi_wp2
    all_goals
      have hw : IntKind.i64.wrap ((cn : Int) + 1) = (cn : Int) + 1 := by rw [IntKind.wrap_i64]; omega
      rw [hw]
      refine ⟨⟨row_set_other HR1.out (by omega), ?_, row_set_other HR3.out (by omega), below_set (Go.below_drewN HBW.out _) _ _ _ (by omega)⟩, (Mid.drew W _).trans (Mid.set _ _ _ _ (by omega) (by omega))⟩
      rw [HSN.out]
      exact Row.set (w := W.drewN _) HR2.out ln _
  case done =>
    rintro W ⟨r1, r2, r3, hbW⟩ hmW hK
    have y2 := r3.cell 0
    simp only [List.getElem?_cons_zero] at y2
    have HR2 := hid r2; have HBW := hid hbW; have HKK := hid hK
    go_wp2_with fail
    have hput : Below w4.heap.size W (W.putObj w4.heap.size (.deferred none)) := put_below HKK.out (Nat.le_refl _)
    refine ⟨by simp, .inl ⟨_, _, rfl, run_takeDeferred HKK.out, ?_⟩⟩
    refine ⟨.slice (some ⟨s + 1, 0, none⟩) m m, ?_, _, rfl, by omega, HR2.out.below hput (by omega), HBW.out.trans (hput.mono (by omega))⟩
    simp [results, Tryz.results120, go_sem]
end Go.Proofs.YthonbfojpbfmgaaGreatDoor

/- Package chunk: tallyRuns (strings). -/
set_option linter.unusedVariables false
set_option linter.unusedSimpArgs false
set_option linter.unnecessarySimpa false
set_option maxRecDepth 100000
namespace Go.Proofs.YthonbfojpbfmgaaGreatDoor
open Go.RowKit Go.Shelf
attribute [local go_sem] Oper.semAt_some

set_option maxHeartbeats 8000000 in
theorem tallyRuns_S (w : World) (g rows codec wd : Nat) (nulls : List Nat) (count : Int) (list : List ByteArray) (ends : List Nat) (base : Int) (lanes : List Nat) (hk : Ck_S w g rows codec wd nulls count list ends base lanes) (hbm : nulls.length = (rows + 63) / 64) (hnv : ∀ x ∈ nulls, x < 18446744073709551616) (hrr : rows ≤ 65536)
    (sv : Value) (sel : List Nat) (hs : Rd w sv sel.length 1 (u64s sel)) (hsv : ∀ x ∈ sel, x < 18446744073709551616) (hsl : sel.length = (rows + 63) / 64) (hsr : ∀ r, bitOf sel r = true → r < rows) (hT : Tab w)
    (hll : list.length ≤ 16777216) (hup : ∀ a b, a < b → b < (nI ends).length → (nI ends).getD a 0 < (nI ends).getD b 0) (hel : ends.length = list.length) (hja : ∀ j ∈ chosenN sel nulls (64 * sel.length), j ≤ 65536 ∧ firstGe (nI ends) ((j : Int) + 1) < ends.length) :
    Calls Tryz.prog 121 #[.pointer (some ⟨g, 0, none⟩), sv] w fun e w' => ∃ gc, e = .returned (.slice (some ⟨gc, 0, none⟩) list.length list.length) ∧ w.heap.size ≤ gc ∧
      Row w' gc 3 (ints (cntsL (runOf ends) (chosenN sel nulls (64 * sel.length)) list.length)) ∧ Below w.heap.size w w' := by
  obtain ⟨s, hsz⟩ : ∃ s, w.heap.size = s := ⟨_, rfl⟩
  have hgs : g < s := by obtain ⟨_, _, _, _, _, h1, _⟩ := hk.ex; rw [← hsz]; exact h1.lt
  have HCK := hid (fun (w1 : World) (hb : Below w.heap.size w w1) => hk.mono hb)
  have HFI : Hid (∀ (j a : Nat), a < ends.length → (a < runOf ends j ↔ ends.getD a 0 ≤ j)) := hid (fun j a ha => by
    have h1 := firstGe_iff hup (t := (j : Int) + 1) (a := a) (by rw [nI_length]; exact ha)
    rw [nI_get ends a ha] at h1
    unfold runOf
    rw [h1]; omega)
  have HMO := hid (runOf_mono ends hup)
  have HAS := hid (chosenN_asc sel nulls (64 * sel.length))
  have HJA := hid hja
  have HGV := hid (fun (w0 : World) (hb : Below w.heap.size w w0) (U : Nat → Prop) (hU : ∀ k, k < w.heap.size → U k) (sb cb : Nat) (h1 : sb < w0.heap.size) (h2 : cb < w0.heap.size) (h3 : U sb) (h4 : U cb) (h5 : w0.cell? ⟨sb, 0, none⟩ = some sv) (h6 : w0.cell? ⟨cb, 0, none⟩ = some (.pointer (some ⟨g, 0, none⟩))) =>
    chosen_gives_S w g rows codec wd nulls count list ends base lanes hk hbm hnv hrr sv sel hs hsv hsl hsr hT w0 hb U hU sb cb h1 h2 h3 h4 h5 h6)
  obtain ⟨nu, lv, ev, nv, bef, q1, q2, q3, q4, q5, q6⟩ := hk.ex
  have HQ1 := hid q1; have HQE := hid q4
  obtain ⟨Ae, ce, rfl, _, _, _⟩ := q4.form
  obtain ⟨Al, cl, rfl, _, _, _⟩ := q3.form
  obtain ⟨As, cs, rfl, _, _, _⟩ := hs.form
  have hjl := chosenN_len sel nulls (64 * sel.length)
  have hjl2 : (chosenN sel nulls (64 * sel.length)).length ≤ 70000 := by omega
  clear hk hbm hnv hs hsv hsl hsr hT hja hup q1 q2 q3 q4 q5 q6 hjl
  generalize chosenN sel nulls (64 * sel.length) = js at *
  generalize sel.length = sn at *
  obtain ⟨m, hm⟩ : ∃ m, list.length = m := ⟨_, rfl⟩
  have HM := hid hm
  rw [hm] at hel
  have HEL := hid hel
  simp only [hm] at hll HQ1 ⊢
  rw [hel] at HJA HFI HQ1 HQE
  rw [hsz] at HCK HGV ⊢
  clear hel
  have HSZ := hid hsz
  clear hm
  have HQC : Hid (∀ w1 : World, Below s w w1 → w1.cell? ⟨g, 6, none⟩ = some (.slice Ae m ce)) := hid (fun w1 hb => by rw [(HQ1.out.mono (by rw [hsz]; exact hb)).cell]; rfl)
  have HQD : Hid (∀ w1 : World, Below s w w1 → Rd w1 (.slice Ae m ce) m 1 (nIs ends)) := hid (fun w1 hb => HQE.out.mono (by rw [hsz]; exact hb))
  have HQB : Hid (∀ w1 : World, Below s w w1 → w1.cell? ⟨g, 5, none⟩ = some (.slice Al m cl)) := hid (fun w1 hb => by rw [(HQ1.out.mono (by rw [hsz]; exact hb)).cell]; rfl)
  refine (callsIn_wide (n := 9)).1 ?_
  refine callsIn_of_wp_marks Tryz.func121 rfl trivial ?_ rfl
  simp only [Tryz.ntmps121, List.size_toArray, List.length_cons, List.length_nil, Nat.reduceAdd, Nat.reduceSub, Array.replicate_succ, Array.replicate_zero, List.push_toArray, List.append_toArray, List.nil_append, List.cons_append]
  refine wpIn_wide.2 ?_
  have hb1 : Below s w (w.alloc (.cells #[.pointer (some ⟨g, 0, none⟩)] 104)) := by rw [← hsz]; exact (brefl w).alloc (Nat.le_refl _) _
  have c5 := HQB.out _ hb1
  have hr1 : Row (w.alloc (.cells #[.pointer (some ⟨g, 0, none⟩)] 104)) s 104 [.pointer (some ⟨g, 0, none⟩)] := by rw [← hsz]; unfold Row; rw [heap_alloc_new]
  have hs1 : (w.alloc (.cells #[.pointer (some ⟨g, 0, none⟩)] 104)).heap.size = s + 1 := by simp [hsz]
  have HB1 := hid hb1; have HR1 := hid hr1; have HS1 := hid hs1
  clear hb1 hr1 hs1
  go_upto_region 1 with fail
  generalize w.alloc (.cells #[.pointer (some ⟨g, 0, none⟩)] 104) = w1 at *
  have d0 := HR1.out.cell 0
  simp only [List.getElem?_cons_zero] at d0
  go_wp2
  refine upon_make 3 (.int .i64 0) 8 Tryz.underlying92 Tryz.infoI64 rfl m (by omega) (by omega) (by omega) (by unfold maxLen; omega) ?_
  intro w2 hrow hb2 hsz2
  rw [HS1.out] at hrow hsz2 ⊢
  have HROW := hid hrow
  have hs1 := HS1.out
  have HB2 := hid (HB1.out.trans (hb2.mono (by omega)))
  have HR2 := hid (HR1.out.below hb2 (by omega))
  clear hrow hb2 d0 HR1 HB1 c5
  go_upto_region 2 with fail
  have HA3 := hid ((brefl w2).alloc (Nat.le_refl _) (.cells #[.slice (some ⟨s + 1, 0, none⟩) m m] 92))
  have HC3 : Hid (Row (w2.alloc (.cells #[.slice (some ⟨s + 1, 0, none⟩) m m] 92)) (s + 1 + 1) 92 [.slice (some ⟨s + 1, 0, none⟩) m m]) := hid (by rw [← hsz2]; unfold Row; rw [heap_alloc_new])
  have hs3 : (w2.alloc (.cells #[.slice (some ⟨s + 1, 0, none⟩) m m] 92)).heap.size = s + 1 + 1 + 1 := by simp [hsz2]
  have HS3 := hid hs3
  have HR3 := hid (HR2.out.mono HA3.out)
  have HN3 := hid (HROW.out.mono HA3.out)
  have HB3 := hid (HB2.out.trans (HA3.out.mono (by omega)))
  clear HR2 HROW HB2 HA3
  generalize w2.alloc (.cells #[.slice (some ⟨s + 1, 0, none⟩) m m] 92) = w3 at *
  clear hsz2
  go_upto_region 3 with fail
  have HA5 := hid ((brefl w3).alloc (Nat.le_refl _) (.cells #[.int .i64 0] 3))
  have HU5 : Hid (Row (w3.alloc (.cells #[.int .i64 0] 3)) (s + 1 + 1 + 1) 3 [.int .i64 0]) := hid (by rw [← hs3]; unfold Row; rw [heap_alloc_new])
  have hs5 : (w3.alloc (.cells #[.int .i64 0] 3)).heap.size = s + 1 + 1 + 1 + 1 := by simp [hs3]
  have HS5 := hid hs5
  have HR5 := hid (HR3.out.mono HA5.out)
  have HN5 := hid (HN3.out.mono HA5.out)
  have HC5 := hid (HC3.out.mono HA5.out)
  have HB5 := hid (HB3.out.trans (HA5.out.mono (by omega)))
  clear HR3 HN3 HC3 HB3 HA5 hs5 HS3 hs3
  generalize w3.alloc (.cells #[.int .i64 0] 3) = w5 at *
  have d0 := HR5.out.cell 0
  simp only [List.getElem?_cons_zero] at d0
  have HCO := hid (chosen_S w5 g As sn cs)
  have HA4 := hid ((((brefl w5).alloc (Nat.le_refl _) (.cells #[.pointer (some ⟨g, 0, none⟩)] 104))).alloc (by simp) (.cells #[.slice As sn cs] 28))
  have HZ4 : Hid (((w5.alloc (.cells #[.pointer (some ⟨g, 0, none⟩)] 104)).alloc (.cells #[.slice As sn cs] 28)).heap.size = s + 6) := hid (by have := HS5.out; simp; omega)
  have HP4 : Hid (((w5.alloc (.cells #[.pointer (some ⟨g, 0, none⟩)] 104)).alloc (.cells #[.slice As sn cs] 28)).cell? ⟨s + 1 + 1 + 1 + 1, 0, none⟩ = some (.pointer (some ⟨g, 0, none⟩))) := hid (by rw [← HS5.out]; simp)
  have HQ4 : Hid (((w5.alloc (.cells #[.pointer (some ⟨g, 0, none⟩)] 104)).alloc (.cells #[.slice As sn cs] 28)).cell? ⟨s + 1 + 1 + 1 + 1 + 1, 0, none⟩ = some (.slice As sn cs)) := hid (by rw [← HS5.out]; simp)
  rw [HS5.out] at HCO
  go_wp2_with (go_at_call 122; refine HCO.out.mono ?_; rintro e w4 ⟨rfl, hw4⟩; rw [← hw4] at HA4 HZ4 HP4 HQ4; clear hw4)
  have HR4 := hid (HR5.out.mono HA4.out)
  have HN4 := hid (HN5.out.mono HA4.out)
  have HC4 := hid (HC5.out.mono HA4.out)
  have HU4 := hid (HU5.out.mono HA4.out)
  have HB4 := hid (HB5.out.trans (HA4.out.mono (by have := HS5.out; omega)))
  clear HR5 HN5 HC5 HU5 HB5 HA4 HCO HS5 HS1 d0
  have hz4 := HZ4.out
  refine wpIn_wide.1 (range_all (n := 9) rfl (gf := 166) (lb := #[.pointer (some ⟨s + 1 + 1 + 1 + 1 + 1, 0, none⟩), .pointer (some ⟨s + 1 + 1 + 1 + 1, 0, none⟩)]) rfl (enters_of Tryz.func166 (by kernel_rfl) rfl)
    (HGV.out w4 HB4.out (fun k => k < s ∨ k = s + 4 ∨ k = s + 5) (fun k hk => .inl hk) _ _ (by omega) (by omega) (.inr (.inr rfl)) (.inr (.inl rfl)) HQ4.out HP4.out) (brefl w4) (fun k hk => by omega) (fun _ => rfl)
    (fun pre W => Row W s 104 [.pointer (some ⟨g, 0, none⟩)] ∧ Row W (s + 1) 3 (ints (cntsL (runOf ends) pre m)) ∧ Row W (s + 1 + 1) 92 [.slice (some ⟨s + 1, 0, none⟩) m m] ∧ Row W (s + 1 + 1 + 1) 3 [.int .i64 (runF (runOf ends) pre : Nat)] ∧ Below s w W)
    (fun pre A B h hb => ⟨h.1.below hb (by omega), h.2.1.below hb (by omega), h.2.2.1.below hb (by omega), h.2.2.2.1.below hb (by omega), h.2.2.2.2.trans (hb.mono (by omega))⟩)
    ⟨HR4.out, by rw [cntsL_nil]; exact HN4.out, HC4.out, HU4.out, HB4.out⟩
    (fun x => { tmps := #[.pointer (some ⟨g, 0, none⟩), .slice As sn cs, .pointer (some ⟨s, 0, none⟩), undef, .slice none 0 0, .pointer (some ⟨s + 1 + 1, 0, none⟩), .pointer (some ⟨s + 1 + 1 + 1, 0, none⟩), .int .i64 (x : Int), .pointer (some ⟨g, 0, none⟩), .pointer (some ⟨g, 0, none⟩), .pointer (some ⟨g, 5, none⟩), .slice Al m cl, .int .i64 (m : Int), .slice (some ⟨s + 1, 0, none⟩) m m, .pointer (some ⟨g, 0, none⟩), .slice As sn cs, .func (.func 166) #[] #[.pointer (some ⟨s + 1 + 1 + 1 + 1 + 1, 0, none⟩), .pointer (some ⟨s + 1 + 1 + 1 + 1, 0, none⟩)], .int .i64 (x : Int), undef, undef, undef, undef, undef, undef, undef, undef, undef, undef, undef, undef, undef, undef, undef, undef, undef, undef], defers := [] }) ?assign ?body ?done)
  case assign =>
    intro l x W K hK
    gi_wp2
    exact hK
  case body =>
    rintro l pre x W hpre ⟨r1, r2, r3, r4, hbW⟩ hsW hmW
    obtain ⟨hmem, hpl⟩ := mem_prefix hpre
    obtain ⟨hx1, hx2⟩ := HJA.out x hmem
    have hle := runF_le (runOf ends) HMO.out x pre (asc_prefix HAS.out hpre)
    have HFX := hid (HFI.out x)
    have hx3 : runOf ends x < m := hx2
    have HSN := hid (cntsL_snoc (runOf ends) pre m x hx3)
    have HRS := hid (runF_snoc (runOf ends) pre x)
    have hcl := cntOfF_le (runOf ends) pre (runOf ends x)
    have y1 : ∀ w9 : World, Row w9 (s + 1) 3 (ints (cntsL (runOf ends) pre m)) → w9.cell? ⟨s + 1, runOf ends x, none⟩ = some (.int .i64 (cntOfF (runOf ends) pre (runOf ends x) : Nat)) := fun w9 h9 => by
      have := h9.cell (runOf ends x)
      rwa [ints_cell _ _ (by rw [cntsL_len]; exact hx3), cntsL_get _ _ _ _ hx3] at this
    have HY1 := hid y1
    have HR1 := hid r1; have HR2 := hid r2; have HR3 := hid r3; have HR4' := hid r4; have HBW := hid hbW
    generalize cntOfF (runOf ends) pre (runOf ends x) = cn at *
    generalize hlx : runOf ends x = fx at *
    generalize runF (runOf ends) pre = r0 at *
    have hcn : cn ≤ 70000 := by omega
    have hmx : Tryz.prog.follows .mixedOrders = true := by kernel_rfl
    clear r1 r2 r3 r4 hbW hlx y1 hx2
    gi_wp2
    gi_loopw [] (fun wr => ∃ r : Nat, r ≤ fx ∧ Hid (Row wr (s + 1 + 1 + 1) 3 [.int .i64 (r : Int)]) ∧ Hid (Row wr s 104 [.pointer (some ⟨g, 0, none⟩)]) ∧ Hid (Row wr (s + 1) 3 (ints (cntsL (runOf ends) pre m))) ∧ Hid (Row wr (s + 1 + 1) 92 [.slice (some ⟨s + 1, 0, none⟩) m m]) ∧ Hid (Below s w wr) ∧ Hid (Mid (fun k => k < s ∨ k = s + 4 ∨ k = s + 5) w4.heap.size W wr)) (fun wr => fx - (match wr.cell? ⟨s + 1 + 1 + 1, 0, none⟩ with | some v => (intOf v).toNat | none => 0))
    case atStart => exact ⟨r0, hle, HR4', HR1, HR2, HR3, HBW, hid (Mid.refl _ _ _)⟩
    case round =>
      obtain ⟨r, hr, HU, HA, HN, HC, HB, HM⟩ := hrel
      have u0 := HU.out.cell 0
      have uf := HU.out.frozen 0
      have a0 := HA.out.cell 0
      have n0 := HC.out.cell 0
      simp only [List.getElem?_cons_zero] at u0 a0 n0
      have e6 := HQC.out wr HB.out
      obtain ⟨be, oe, rfl, hse⟩ := (HQD.out wr HB.out).at (by omega)
      have hrm : r < m := by omega
      have z1 := hse r _ (i64s_get (nI ends) r (by rw [nI_length, HEL.out]; exact hrm))
      rw [nI_get ends r (by rw [HEL.out]; exact hrm)] at z1
      have hfx := HFX.out r hrm
      have hri : (r : Int) < (m : Int) := by omega
      clear hse
      generalize ends.getD r 0 = er at *
      by_cases hrx : r < fx
      · have hle2 : (er : Int) ≤ (x : Int) := by have := hfx.1 hrx; omega
        have HU2 : Hid (Row (wr.setCell ⟨s + 1 + 1 + 1, 0, none⟩ (.int .i64 ((r : Int) + 1))) (s + 1 + 1 + 1) 3 [.int .i64 ((r + 1 : Nat) : Int)]) := hid (HU.out.set 0 _)
        have HC2 : Hid ((wr.setCell ⟨s + 1 + 1 + 1, 0, none⟩ (.int .i64 ((r : Int) + 1))).cell? ⟨s + 1 + 1 + 1, 0, none⟩ = some (.int .i64 ((r + 1 : Nat) : Int))) := hid (HU2.out.cell 0)
        have HU0 := hid u0
        clear hfx
        gi_wp2
        gi_region
        all_goals gi_wp2
        all_goals go_roundw
        all_goals first
          | exact ⟨r + 1, by omega, hid HU2.out, hid (row_set_other HA.out (by omega)), hid (row_set_other HN.out (by omega)), hid (row_set_other HC.out (by omega)), hid (Go.below_drewN (below_set HB.out _ _ _ (by omega)) 1), hid ((HM.out.trans (Mid.set wr _ _ _ (by omega) (by omega))).trans (Mid.drew _ 1))⟩
          | (show fx - (match (wr.setCell ⟨s + 1 + 1 + 1, 0, none⟩ (.int .i64 ((r : Int) + 1))).cell? ⟨s + 1 + 1 + 1, 0, none⟩ with | some v => (intOf v).toNat | none => 0) < fx - (match wr.cell? ⟨s + 1 + 1 + 1, 0, none⟩ with | some v => (intOf v).toNat | none => 0)
             rw [HC2.out, HU0.out]; simp [intOf]; omega)
      · obtain rfl : r = fx := by omega
        have hle2 : ¬ (er : Int) ≤ (x : Int) := by have := mt hfx.2 hrx; omega
        have y1 := HY1.out wr HN.out
        have yf := HN.out.frozen r
        clear hfx
        have HN2 : Hid (Row (wr.setCell ⟨s + 1, r, none⟩ (.int .i64 ((cn : Int) + 1))) (s + 1) 3 (ints (cntsL (runOf ends) (pre ++ [x]) m))) := hid (by rw [HSN.out]; exact HN.out.set r _)
        have HMF : Hid (Mid (fun k => k < s ∨ k = s + 4 ∨ k = s + 5) (s + 6) W (wr.setCell ⟨s + 1, r, none⟩ (.int .i64 ((cn : Int) + 1))).drew) := hid (by
          have h9 := (HM.out.trans (Mid.set wr (s + 1) r (.int .i64 ((cn : Int) + 1)) (by omega) (by omega))).trans (Mid.drew _ 1)
          rw [hz4] at h9; exact h9)
        have HU2 : Hid (Row (wr.setCell ⟨s + 1, r, none⟩ (.int .i64 ((cn : Int) + 1))) (s + 1 + 1 + 1) 3 [.int .i64 (runF (runOf ends) (pre ++ [x]) : Nat)]) := hid (by rw [HRS.out]; exact row_set_other HU.out (by omega))
        gi_wp2
        gi_region
        all_goals gi_wp2
        all_goals exact ⟨⟨row_set_other HA.out (by omega), HN2.out, row_set_other HC.out (by omega), HU2.out, Go.below_drewN (below_set HB.out _ _ _ (by omega)) 1⟩, HMF.out⟩
  case done =>
    rintro W ⟨r1, r2, r3, r4, hbW⟩ hmW hK
    have y2 := r3.cell 0
    simp only [List.getElem?_cons_zero] at y2
    have HR2 := hid r2; have HBW := hid hbW; have HKK := hid hK
    go_wp2_with fail
    have hput : Below w4.heap.size W (W.putObj w4.heap.size (.deferred none)) := put_below HKK.out (Nat.le_refl _)
    refine ⟨by simp, .inl ⟨_, _, rfl, run_takeDeferred HKK.out, ?_⟩⟩
    refine ⟨.slice (some ⟨s + 1, 0, none⟩) m m, ?_, _, rfl, by omega, HR2.out.below hput (by omega), HBW.out.trans (hput.mono (by omega))⟩
    simp [results, Tryz.results121, go_sem]
end Go.Proofs.YthonbfojpbfmgaaGreatDoor

/- Package chunk: showTally (strings). -/
set_option linter.unusedVariables false
set_option linter.unusedSimpArgs false
set_option linter.unnecessarySimpa false
set_option maxRecDepth 100000
namespace Go.Proofs.YthonbfojpbfmgaaGreatDoor
open Go.RowKit Go.Shelf
attribute [local go_sem] Oper.semAt_some

set_option maxHeartbeats 4000000 in
theorem showTally_S (U : Nat → Prop) (b l : Nat) (J : List (ByteArray × Nat) → World → Prop) (list : List ByteArray) (cs : List Nat) (lv cv : Value) (n : Nat) (W : World) (hn : cs.length = n) (hll : list.length ≤ 16777216) (hcl : n ≤ list.length) (hc : ∀ k, k < n → cs.getD k 0 ≤ 1048576)
    (hlist : ∀ w9, Mid U b W w9 → Rd w9 lv list.length 1 (lstS list)) (hcs : ∀ w9, Mid U b W w9 → Rd w9 cv n 1 (ints cs))
    (hY : ∀ pre x w9, pre ++ [x] <+: shL dfS list cs n → J pre w9 → Mid U b W w9 → YieldAt Fence.wide 0 Tryz.prog l #[vS x.1, .int .i64 (x.2 : Nat)] w9 fun e W' => e = .returned (.bool true) ∧ J (pre ++ [x]) W' ∧ Mid U b w9 W') (h0 : J [] W) :
    Calls Tryz.prog 119 #[lv, cv, .func (.yield l) #[] #[]] W fun e W' => (∃ v, e = .returned v) ∧ J (shL dfS list cs n) W' ∧ Mid U b W W' := by
  have HL := hid hlist; have HC := hid hcs; have HY := hid hY; have HCN := hid hc; have HN := hid hn
  obtain ⟨A1, c1, rfl, _, _, _⟩ := (hlist W (Mid.refl _ _ _)).form
  obtain ⟨A2, c2, rfl, _, _, _⟩ := (hcs W (Mid.refl _ _ _)).form
  clear hlist hcs hY hc hn
  obtain ⟨m, hm⟩ : ∃ m, list.length = m := ⟨_, rfl⟩
  have HM := hid hm
  simp only [hm] at HL hll hcl ⊢
  clear hm
  refine (callsIn_wide (n := 9)).1 ?_
  refine callsIn_of_wp Tryz.func119 rfl trivial ?_ rfl
  simp only [Tryz.ntmps119, List.size_toArray, List.length_cons, List.length_nil, Nat.reduceAdd, Nat.reduceSub, Array.replicate_succ, Array.replicate_zero, List.push_toArray, List.append_toArray, List.nil_append, List.cons_append]
  gi_wp2
  gi_loopw [10] (fun i wr => ∃ k : Nat, k ≤ n ∧ i = .int .i64 k ∧ Hid (J (shL dfS list cs k) wr) ∧ Hid (Mid U b W wr)) (fun i _ => n - (intOf i).toNat)
  case atStart => exact ⟨0, Nat.zero_le _, rfl, hid h0, hid (Mid.refl _ _ _)⟩
  case round =>
    obtain ⟨k, hk, rfl, HJ, HMD⟩ := hrel
    by_cases hlt : k < n
    · obtain ⟨b1, o1, rfl, hs1⟩ := (HL.out wr HMD.out).at (by omega)
      obtain ⟨b2, o2, rfl, hs2⟩ := (HC.out wr HMD.out).at (by omega)
      have x1 := hs1 k _ (lstS_get list k (by rw [HM.out]; omega))
      have x2 := hs2 k _ (ints_cell cs k (by rw [HN.out]; exact hlt))
      have hcn := HCN.out k hlt
      have HSU := hid (shL_succ dfS list cs k)
      have hkm : (k : Int) < (m : Int) := by omega
      unfold vS at x1
      clear hs1 hs2
      have HYK := hid (fun (h : 0 < cs.getD k 0) => yield_any (m' := 8) (HY.out (shL dfS list cs k) (list.getD k dfS, cs.getD k 0) wr (by
        have := shL_succ dfS list cs k
        rw [if_pos h] at this
        rw [← this]; exact shL_prefix _ _ _ (by omega)) HJ.out HMD.out))
      simp only at HYK
      generalize list.getD k dfS = x at *
      generalize cs.getD k 0 = c at *
      by_cases hc0 : 0 < c
      · rw [if_pos hc0] at HSU
        obtain ⟨fn, tmps, assign, body, hy, hR⟩ := HYK.out hc0
        unfold vS at hy
        have hci : (0 : Int) < (c : Int) := by omega
        gi_wp2
        refine hR.mono ?_
        rintro e w5 ⟨rfl, hj5, hm5⟩
        have HJ5 := hid hj5; have HM5 := hid (HMD.out.trans hm5)
        clear hj5 hm5
        gi_wp2
        go_roundw
        case rel => exact ⟨k + 1, by omega, by go_num, hid (by rw [HSU.out]; exact HJ5.out), HM5⟩
        case measure => simp [intOf]; omega
      · rw [if_neg hc0] at HSU
        have hci : ¬ (0 : Int) < (c : Int) := by omega
        gi_wp2
        refine ⟨fun _ h => (by cases h), ?_⟩
        gi_wp2
        go_roundw
        case rel => exact ⟨k + 1, by omega, by go_num, hid (by rw [HSU.out]; exact HJ.out), HMD⟩
        case measure => simp [intOf]; omega
    · obtain rfl : k = n := by omega
      gi_wp2
      go_end0
      exact ⟨⟨_, rfl⟩, HJ.out, HMD.out⟩
end Go.Proofs.YthonbfojpbfmgaaGreatDoor
