/- Lists that share no memory: where append leaves its answer; the law's own test of it, over lists of words. -/
import Derived.Test.YthonbfojpbfmgaaGreatDoorLawfolduptoB1
import Derived.Test.YthonbfojpbfmgaaGreatDoorLawfolduptoB6
import Derived.Deep.QuietTactic
import Derived.RangeFuncNested
import Derived.RangeFuncBound
import Derived.RangeFuncCalls
import Derived.RangeFuncLeaves
import Derived.Shelf.Abstract
import Derived.Shelf.RegionOpen
import Derived.WalkKit
import Derived.OwnWalkIn
import Derived.TacticsInMore
import Derived.LoopNIn
import Derived.LoopIn
import Derived.Test.YthonbfojpbfmgaaGreatDoorLawfolduptoB0
import Derived.Test.YthonbfojpbfmgaaGreatDoorLawfolduptoB4
set_option linter.unusedVariables false
set_option linter.unusedSimpArgs false
set_option linter.unnecessarySimpa false
set_option maxRecDepth 20000
namespace Go.Proofs.YthonbfojpbfmgaaGreatDoor
open Go.RowKit

theorem Rd.keep {w w' : World} {v : Value} {n sz : Nat} {cs : List Value} (h : Rd w v n sz cs) (hk : ∀ k, v.ownBlock = some k → w'.heap[k]? = w.heap[k]?) : Rd w' v n sz cs := by
  refine ⟨h.1, ?_⟩
  rcases h.2 with h | ⟨b, o, cap, rfl, h1, h2, h3⟩
  · exact .inl h
  · refine .inr ⟨b, o, cap, rfl, h1, h2, ?_⟩
    intro i u hu
    rw [← h3 i u hu]
    exact World.cell?_of_block (hk b rfl)
theorem Rd.at {w : World} {A : Option Addr} {n m sz cap : Nat} {cs : List Value} (h : Rd w (.slice A n cap) m sz cs) (h0 : 0 < m) : ∃ b o, A = some ⟨b, o, none⟩ ∧ Seg w b o cs := by
  rcases h.2 with ⟨_, rfl⟩ | ⟨b, o, cap', he, _, _, hs⟩
  · exact absurd h0 (Nat.lt_irrefl 0)
  · injection he with e1 e2 e3
    exact ⟨b, o, e1, hs⟩
def mk (i : Nat) : Value := .int .u64 ((18446744073709551615 - (501 + i) : Nat) : Int)
end Go.Proofs.YthonbfojpbfmgaaGreatDoor

/- Package chunk: chosen goes through the numbers of the values that a selection chooses (integers). -/
set_option linter.unusedVariables false
set_option linter.unusedSimpArgs false
set_option linter.unnecessarySimpa false
set_option maxRecDepth 100000
namespace Go.Proofs.YthonbfojpbfmgaaGreatDoor
open Go.RowKit Go.Shelf
attribute [local go_sem] Oper.semAt_some

set_option maxHeartbeats 8000000 in
theorem chosen_gives_I (wc : World) (g rows codec wd : Nat) (nulls : List Nat) (count : Int) (list : List Int) (ends : List Nat) (base : Int) (lanes : List Nat) (hk : Ck_I wc g rows codec wd nulls count list ends base lanes) (hbm : nulls.length = (rows + 63) / 64) (hnv : ∀ x ∈ nulls, x < 18446744073709551616) (hrr : rows ≤ 65536)
    (sv : Value) (sel : List Nat) (hs : Rd wc sv sel.length 1 (u64s sel)) (hsv : ∀ x ∈ sel, x < 18446744073709551616) (hsl : sel.length = (rows + 63) / 64) (hsr : ∀ r, bitOf sel r = true → r < rows) (hT : Tab wc)
    (w0 : World) (hw : Below wc.heap.size wc w0) (U : Nat → Prop) (hU : ∀ k, k < wc.heap.size → U k) (sb cb : Nat) (hsb : sb < w0.heap.size) (hcb : cb < w0.heap.size) (hUs : U sb) (hUc : U cb) (hcs : w0.cell? ⟨sb, 0, none⟩ = some sv) (hcc : w0.cell? ⟨cb, 0, none⟩ = some (.pointer (some ⟨g, 0, none⟩))) :
    Gives Tryz.prog 170 #[.pointer (some ⟨sb, 0, none⟩), .pointer (some ⟨cb, 0, none⟩)] (fun j : Nat => #[Value.int .i64 (j : Int)]) U (chosenN sel nulls (64 * sel.length)) w0 := by
  intro l J W hW hJ hY h0
  have HTL := hid hT.lt
  have hsz : w0.heap.size ≤ W.heap.size := hW.size
  have HCL : Hid (wc.heap.size ≤ w0.heap.size) := hid hw.size
  -- what is known of a world between two rounds
  have HCH := hid (fun (w1 : World) (hm : Mid U W.heap.size W w1) => (show Below wc.heap.size wc w1 from (hw.trans (hW.mono hw.size)).trans (hm.below (by have := hw.size; have := hW.size; omega) hU)))
  have HCB := hid (fun (w1 : World) (hm : Mid U W.heap.size W w1) => (show w1.cell? ⟨cb, 0, none⟩ = some (.pointer (some ⟨g, 0, none⟩)) from by
    rw [cell_at (hm.keep cb (Nat.lt_of_lt_of_le hcb hW.size) (.inl hUc)), cell_at (hW.block cb hcb)]; exact hcc))
  have hcsW : W.cell? ⟨sb, 0, none⟩ = some sv := by rw [cell_at (hW.block sb hsb)]; exact hcs
  have HNM := hid (fun (w1 : World) (hb : Below wc.heap.size wc w1) (r : Nat) (hr : r < rows) => number_I w1 g rows codec wd nulls count list ends base lanes r (hk.mono hb) hbm hnv hrr hr)
  have HTZ := hid (fun (w1 : World) (hb : Below wc.heap.size wc w1) (z : Nat) (h0 : z ≠ 0) (h : z < 18446744073709551616) => trailingZeros_any z w1 h0 h (hT.mono hb hT.lt))
  have HRS := hid (fun (w1 : World) (hb : Below wc.heap.size wc w1) => hs.mono hb)
  obtain ⟨nu, lv, ev, nv, bef, q1, q2, q3, q4, q5, q6⟩ := hk.ex
  have HRN := hid (fun (w1 : World) (hb : Below wc.heap.size wc w1) => q2.mono hb)
  have HRW := hid (fun (w1 : World) (hb : Below wc.heap.size wc w1) => q1.mono hb)
  have HSV := hid hsv; have HNV := hid hnv; have HSR := hid hsr; have HY := hid hY
  have HBM := hid hbm
  obtain ⟨A1, c1, rfl, hsc1, hsc2, _⟩ := hs.form
  obtain ⟨A2, c2, rfl, _, _, _⟩ := q2.form
  clear hk hs hT hw hU hUs hUc hcc hcs hsv hnv hsr hY q1 q2 q3 q4 q5 q6
  obtain ⟨n, hn⟩ : ∃ n, sel.length = n := ⟨_, rfl⟩
  have HN := hid hn
  rw [hn] at hsl hcsW hsc1 ⊢
  have hnn : nulls.length = n := by rw [hbm, hsl]
  have HSL := hid hsl
  have hn6 : n ≤ 1100 := by omega
  have HNN := hid hnn
  rw [hnn] at HRW
  simp only [hn] at HRS
  clear hn hnn hbm hsl
  refine (callsIn_wide (n := 9)).1 ?_
  refine callsIn_of_wp Tryz.func170 rfl trivial ?_ rfl
  simp only [Tryz.ntmps170, List.size_toArray, List.length_cons, List.length_nil, Nat.reduceAdd, Nat.reduceSub, Array.replicate_succ, Array.replicate_zero, List.push_toArray, List.append_toArray, List.nil_append, List.cons_append]
  gi_wp2
  gi_loopw [8] (fun i wr => ∃ k : Nat, k ≤ n ∧ i = .int .i64 k ∧ Hid (J (chosenN sel nulls (64 * k)) wr) ∧ Hid (Mid U W.heap.size W wr)) (fun i _ => n - (intOf i).toNat)
  case atStart => exact ⟨0, Nat.zero_le _, rfl, hid h0, hid (Mid.refl _ _ _)⟩
  case round =>
    obtain ⟨k, hk, rfl, HJ, HM⟩ := hrel
    have HBC := hid (HCH.out wr HM.out)
    have hcb := HCB.out wr HM.out
    by_cases hlt : k < n
    · obtain ⟨b1, o1, rfl, hs1⟩ := (HRS.out wr HBC.out).at (by omega)
      obtain ⟨b2, o2, rfl, hs2⟩ := (HRN.out wr HBC.out).at (by rw [HNN.out]; omega)
      have x1 := hs1.word k (by rw [HN.out]; exact hlt)
      have x2 := hs2.word k (by rw [HNN.out]; exact hlt)
      have x3 : wr.cell? ⟨g, 3, none⟩ = some (.slice (some ⟨b2, o2, none⟩) n c2) := by rw [(HRW.out wr HBC.out).cell]; rfl
      have hv1 : sel.getD k 0 < 18446744073709551616 := HSV.out _ (by simp [List.getD, List.getElem?_eq_getElem (show k < sel.length by rw [HN.out]; exact hlt)])
      have hv2 : nulls.getD k 0 < 18446744073709551616 := HNV.out _ (by simp [List.getD, List.getElem?_eq_getElem (show k < nulls.length by rw [HNN.out]; exact hlt)])
      have han := u64_andNot_nat' (sel.getD k 0) (nulls.getD k 0) hv1 hv2
      have hcg := cmb_get sel nulls k (by rw [HN.out]; exact hlt)
      have HF := hid (rest_first (cmb sel nulls) k (cmb_lt sel nulls) (by rw [cmb_len, HN.out]; exact hlt))
      rw [hcg] at HF
      clear hs1 hs2 hcg hv1 hv2
      generalize sel.getD k 0 &&& (L.M64 - nulls.getD k 0) = y0 at *
      generalize sel.getD k 0 = x at *
      generalize nulls.getD k 0 = xn at *
      gi_wp2
      gi_loopw [5] (fun y wq => ∃ (t z : Nat), y = .int .u64 z ∧ Hid (Rest (cmb sel nulls) k t z) ∧ Hid (J (chosenN sel nulls (64 * k + t)) wq) ∧ Hid (Mid U W.heap.size W wq)) (fun y _ => (intOf y).toNat)
      case atStart => exact ⟨0, y0, rfl, HF, by simpa using HJ, HM⟩
      case round =>
        obtain ⟨t, z, rfl, HRST, HJ2, HM2⟩ := hrel
        have hz64 : z < 18446744073709551616 := HRST.out.2.1
        by_cases hz : z = 0
        · have hze : ((z : Int) != 0) = false := by simpa using hz
          have HZ := hid hz
          clear hz
          gi_wp2
          go_roundw
          case rel =>
            refine ⟨k + 1, by omega, by go_num, hid ?_, HM2⟩
            have := rest_zero (by rw [← HZ.out]; exact HRST.out)
            unfold chosenN
            rw [this]
            exact HJ2.out
          case measure => simp [intOf]; omega
        · have hze : ((z : Int) != 0) = true := by simpa using hz
          have HNX := hid (rest_next HRST.out hz)
          have hz1 : IntKind.u64.wrap ((z : Int) - 1) = ((z - 1 : Nat) : Int) := by rw [IntKind.wrap_u64]; omega
          have hz2 := u64_and_nat z (z - 1) hz64 (by omega)
          have hc64 := HNX.out.2.2.1
          have hzlt := HNX.out.2.2.2
          have HBQ := hid (HCH.out wr HM2.out)
          have hcq := HCB.out wr HM2.out
          have HTC := hid (fun (w2 : World) (hb : Below wr.heap.size wr w2) => HTZ.out w2 (HBQ.out.trans (hb.mono (Nat.le_trans (Nat.le_trans HCL.out hsz) HM2.out.low.size))) z hz hz64)
          generalize Lib.ctz 64 z = c at *
          have hin : 64 * k + c ∈ idxN (cmb sel nulls) (64 * k + (c + 1)) := by rw [HNX.out.1]; simp
          obtain ⟨_, hbt⟩ := idx_lt _ _ _ hin
          rw [cmb_bit sel nulls HNV.out, Bool.and_eq_true, Bool.not_eq_true'] at hbt
          have hr := HSR.out _ hbt.1
          have HNC := hid (fun (w2 : World) (hb : Below wr.heap.size wr w2) => HNM.out w2 (HBQ.out.trans (hb.mono (Nat.le_trans (Nat.le_trans HCL.out hsz) HM2.out.low.size))) (64 * k + c) hr)
          have hrk : rankN nulls (64 * k + c + 1) = rankN nulls (64 * k + c) := by rw [rankN_succ, hbt.2]; simp
          have hrl : rankN nulls (64 * k + c) ≤ 64 * k + c := by unfold rankN; have := List.length_filter_le (bitOf nulls) (List.range (64 * k + c)); rwa [List.length_range] at this
          obtain ⟨j, hj⟩ : ∃ j, 64 * k + c - rankN nulls (64 * k + c + 1) = j := ⟨_, rfl⟩
          have hji : (((64 * k + c : Nat) : Int) - ((rankN nulls (64 * k + c + 1) : Nat) : Int)) = (j : Int) := by omega
          rw [hji, show ((64 * k + c : Nat) : Int) = 64 * (k : Int) + (c : Int) by omega] at HNC
          have hch : chosenN sel nulls (64 * k + (c + 1)) = chosenN sel nulls (64 * k + t) ++ [j] := by
            unfold chosenN
            rw [HNX.out.1, List.map_append, List.map_cons, List.map_nil, hj]
          have hpre : chosenN sel nulls (64 * k + t) ++ [j] <+: chosenN sel nulls (64 * sel.length) := by rw [← hch, HN.out]; exact chosenN_prefix _ _ (by omega)
          have HYR := hid (fun (w2 : World) (hb : Below wr.heap.size wr w2) => HY.out _ j w2 hpre (hJ _ _ _ HJ2.out (hb.mono HM2.out.low.size)) (Nat.le_trans HM2.out.low.size hb.size) (HM2.out.trans (Mid.of_below hb)))
          have HCHN := hid hch
          clear hin hbt hr hrk hrl hj hji hpre hch hz
          have hmx : Tryz.prog.follows .mixedOrders = true := by kernel_rfl
          have hw1 : IntKind.i64.wrap (64 * (k : Int)) = 64 * (k : Int) := by rw [IntKind.wrap_i64]; omega
          have hw2 : IntKind.i64.wrap (64 * (k : Int) + (c : Int)) = 64 * (k : Int) + (c : Int) := by rw [IntKind.wrap_i64]; omega
          gi_wp2
          gi_region_with_o (first
            | (refine ⟨trivial, ?_⟩; gi_at_call 148; refine (callsIn_wide.2 (HTC.out _ (bdrew (brefl wr) 1))).mono ?_; rintro e w3 ⟨rfl, hw3⟩; subst hw3)
            | (refine ⟨trivial, ?_⟩; gi_at_call 171; refine (callsIn_wide.2 (HNC.out _ (bdrew (brefl wr) 1))).mono ?_; rintro e w4 ⟨rfl, hb4⟩; have HB4 : Hid (Below wr.heap.size wr w4) := hid (bthen (bdrew (brefl wr) 1) hb4); obtain ⟨fn, tmps, assign, body, hy, hR⟩ := yield_any (m' := 8) (HYR.out w4 HB4.out); clear hb4)
            | (refine hR.mono ?_; rintro e w5 ⟨rfl, hj5, hm5⟩; have HJ5 := hid hj5; have HM5 := hid (HM2.out.trans ((Mid.of_below HB4.out).trans hm5)); clear hj5 hm5))
          all_goals gi_wp2
          all_goals go_roundw
          all_goals first
            | exact ⟨c + 1, _, rfl, hid HNX.out.2.1, hid (by rw [HCHN.out]; exact HJ5.out), HM5⟩
            | (simp [intOf]; omega)
    · obtain rfl : k = n := by omega
      gi_wp2
      go_end0
      exact ⟨⟨_, rfl⟩, HJ.out, HM.out⟩
end Go.Proofs.YthonbfojpbfmgaaGreatDoor

/- Counts of what was chosen, by place. -/
set_option linter.unusedVariables false
set_option linter.unusedSimpArgs false
set_option linter.unnecessarySimpa false
set_option maxRecDepth 100000
namespace Go.Proofs.YthonbfojpbfmgaaGreatDoor
open Go.RowKit

/-- how many of js have their place at k -/
def cntOfF (f : Nat → Nat) (js : List Nat) (k : Nat) : Nat := js.countP fun j => decide (f j = k)
def cntsL (f : Nat → Nat) (js : List Nat) (m : Nat) : List Nat := (List.range m).map (cntOfF f js)
theorem cntsL_len (f : Nat → Nat) (js : List Nat) (m : Nat) : (cntsL f js m).length = m := by simp [cntsL]
theorem cntsL_get (f : Nat → Nat) (js : List Nat) (m k : Nat) (h : k < m) : (cntsL f js m).getD k 0 = cntOfF f js k := by simp [cntsL, List.getD, h]
theorem cntOfF_le (f : Nat → Nat) (js : List Nat) (k : Nat) : cntOfF f js k ≤ js.length := List.countP_le_length
theorem cntsL_nil (f : Nat → Nat) (m : Nat) : ints (cntsL f [] m) = List.replicate m (.int .i64 0) := by
  apply List.ext_getElem
  · simp [ints, cntsL]
  · intro i h1 h2
    simp [ints, cntsL, cntOfF]
theorem cntsL_snoc (f : Nat → Nat) (js : List Nat) (m j : Nat) (h : f j < m) : ints (cntsL f (js ++ [j]) m) = (ints (cntsL f js m)).set (f j) (.int .i64 ((cntOfF f js (f j) : Nat) + 1 : Int)) := by
  apply List.ext_getElem
  · simp [ints, cntsL]
  · intro i h1 h2
    simp only [ints, cntsL, List.getElem_map, List.getElem_range, List.getElem_set]
    unfold cntOfF
    rw [List.countP_append]
    by_cases hi : f j = i
    · subst hi; simp
    · simp [hi]
theorem ints_cell (l : List Nat) (k : Nat) (h : k < l.length) : (ints l)[k]? = some (.int .i64 (l.getD k 0 : Nat)) := by
  simp [ints, List.getD, List.getElem?_eq_getElem h]
theorem mem_prefix {α : Type} {pre xs : List α} {x : α} (h : pre ++ [x] <+: xs) : x ∈ xs ∧ pre.length < xs.length := by
  obtain ⟨t, rfl⟩ := h
  constructor
  · simp
  · simp
theorem chosenN_len (sel nulls : List Nat) (m : Nat) : (chosenN sel nulls m).length ≤ m := by
  unfold chosenN idxN
  rw [List.length_map]
  have := List.length_filter_le (bitOf (cmb sel nulls)) (List.range m)
  rwa [List.length_range] at this
/-- where the pointer stands behind the values of pre -/
def runF (f : Nat → Nat) (pre : List Nat) : Nat := pre.foldl (fun _ y => f y) 0
theorem runF_snoc (f : Nat → Nat) (pre : List Nat) (x : Nat) : runF f (pre ++ [x]) = f x := by simp [runF]
theorem runF_le (f : Nat → Nat) (hf : ∀ a b, a ≤ b → f a ≤ f b) (x : Nat) : ∀ (pre : List Nat), (∀ y ∈ pre, y ≤ x) → runF f pre ≤ f x := by
  intro pre h
  unfold runF
  have key : ∀ (l : List Nat) (a : Nat), a ≤ f x → (∀ y ∈ l, y ≤ x) → l.foldl (fun _ y => f y) a ≤ f x := by
    intro l
    induction l with
    | nil => intro a ha _; exact ha
    | cons y r ih => intro a _ hl; exact ih (f y) (hf _ _ (hl y (List.mem_cons_self ..))) (fun z hz => hl z (List.mem_cons_of_mem _ hz))
  exact key pre 0 (Nat.zero_le _) h
theorem rank_step (ws : List Nat) (i j : Nat) (h : i ≤ j) : i - rankN ws (i + 1) ≤ j - rankN ws (j + 1) := by
  obtain ⟨d, rfl⟩ := Nat.exists_eq_add_of_le h
  clear h
  induction d with
  | zero => exact Nat.le_refl _
  | succ d ih =>
    refine Nat.le_trans ih ?_
    have h1 := rankN_succ ws (i + d + 1)
    rw [show i + (d + 1) = i + d + 1 by omega]
    rw [h1]
    cases bitOf ws (i + d + 1) <;> simp <;> omega
theorem idxN_asc (ws : List Nat) (m : Nat) : (idxN ws m).Pairwise (· < ·) := by
  unfold idxN
  exact List.Pairwise.filter _ List.pairwise_lt_range
theorem chosenN_asc (sel nulls : List Nat) (m : Nat) : (chosenN sel nulls m).Pairwise (· ≤ ·) := by
  unfold chosenN
  rw [List.pairwise_map]
  exact (idxN_asc _ _).imp (fun h => rank_step _ _ _ (Nat.le_of_lt h))
theorem asc_prefix {js pre : List Nat} {x : Nat} (h : js.Pairwise (· ≤ ·)) (hp : pre ++ [x] <+: js) : ∀ y ∈ pre, y ≤ x := by
  obtain ⟨t, rfl⟩ := hp
  have h1 := (List.pairwise_append.1 h).1
  intro y hy
  exact (List.pairwise_append.1 h1).2.2 y hy x (by simp)
/-- the values that were counted, each with its count -/
def shL {α : Type} (d : α) (vals : List α) (cs : List Nat) (k : Nat) : List (α × Nat) := ((List.range k).filter fun i => decide (0 < cs.getD i 0)).map fun i => (vals.getD i d, cs.getD i 0)
theorem shL_succ {α : Type} (d : α) (vals : List α) (cs : List Nat) (k : Nat) : shL d vals cs (k + 1) = if 0 < cs.getD k 0 then shL d vals cs k ++ [(vals.getD k d, cs.getD k 0)] else shL d vals cs k := by
  unfold shL
  rw [List.range_succ, List.filter_append, List.map_append]
  have key : ∀ q : Bool, ((List.filter (fun _ => q) [k]).map fun i => (vals.getD i d, cs.getD i 0)) = if q = true then [(vals.getD k d, cs.getD k 0)] else [] := by intro q; cases q <;> rfl
  have e : List.filter (fun i => decide (0 < cs.getD i 0)) [k] = List.filter (fun _ => decide (0 < cs.getD k 0)) [k] := List.filter_congr (fun x hx => by rw [List.mem_singleton] at hx; subst hx; rfl)
  rw [e, key]
  by_cases h : 0 < cs.getD k 0
  · rw [if_pos h, if_pos (decide_eq_true h)]
  · rw [if_neg h, if_neg (by rw [decide_eq_true_eq]; exact h), List.append_nil]
theorem shL_prefix {α : Type} (d : α) (vals : List α) (cs : List Nat) {k k' : Nat} (h : k ≤ k') : shL d vals cs k <+: shL d vals cs k' := by
  obtain ⟨e, rfl⟩ := Nat.exists_eq_add_of_le h
  clear h
  induction e with
  | zero => exact List.prefix_refl _
  | succ e ih =>
    rw [← Nat.add_assoc, shL_succ]
    split
    · exact ih.trans (List.prefix_append _ _)
    · exact ih
end Go.Proofs.YthonbfojpbfmgaaGreatDoor

/- Package chunk: chosen, tallyCodes (integers). -/
set_option linter.unusedVariables false
set_option linter.unusedSimpArgs false
set_option linter.unnecessarySimpa false
set_option maxRecDepth 100000
namespace Go.Proofs.YthonbfojpbfmgaaGreatDoor
open Go.RowKit Go.Shelf
attribute [local go_sem] Oper.semAt_some

theorem chosen_I (w : World) (g : Nat) (A : Option Addr) (n c : Nat) : Calls Tryz.prog 129 #[.pointer (some ⟨g, 0, none⟩), .slice A n c] w fun e w' =>
    e = .returned (.func (.func 170) #[] #[.pointer (some ⟨w.heap.size + 1, 0, none⟩), .pointer (some ⟨w.heap.size, 0, none⟩)]) ∧ w' = (w.alloc (.cells #[.pointer (some ⟨g, 0, none⟩)] 115)).alloc (.cells #[.slice A n c] 28) := by
  go_enter Tryz.func129, Tryz.ntmps129
  go_wp2_with fail
  go_ret
  exact ⟨rfl, rfl⟩
set_option maxHeartbeats 8000000 in
theorem tallyCodes_I (w : World) (g rows codec wd : Nat) (nulls : List Nat) (count : Int) (list : List Int) (ends : List Nat) (base : Int) (lanes : List Nat) (hk : Ck_I w g rows codec wd nulls count list ends base lanes) (hbm : nulls.length = (rows + 63) / 64) (hnv : ∀ x ∈ nulls, x < 18446744073709551616) (hrr : rows ≤ 65536)
    (sv : Value) (sel : List Nat) (hs : Rd w sv sel.length 1 (u64s sel)) (hsv : ∀ x ∈ sel, x < 18446744073709551616) (hsl : sel.length = (rows + 63) / 64) (hsr : ∀ r, bitOf sel r = true → r < rows) (hT : Tab w)
    (hll : list.length ≤ 16777216) (hlv : ∀ x ∈ lanes, x < 18446744073709551616) (hwd : wd ≤ 64) (hja : ∀ j ∈ chosenN sel nulls (64 * sel.length), j ≤ 65536 ∧ L.laneOf wd lanes j < list.length ∧ (0 < wd → j / (64 / wd) < lanes.length)) :
    Calls Tryz.prog 127 #[.pointer (some ⟨g, 0, none⟩), sv] w fun e w' => ∃ gc, e = .returned (.slice (some ⟨gc, 0, none⟩) list.length list.length) ∧ w.heap.size ≤ gc ∧
      Row w' gc 3 (ints (cntsL (L.laneOf wd lanes) (chosenN sel nulls (64 * sel.length)) list.length)) ∧ Below w.heap.size w w' := by
  obtain ⟨s, hsz⟩ : ∃ s, w.heap.size = s := ⟨_, rfl⟩
  have hgs : g < s := by obtain ⟨_, _, _, _, _, h1, _⟩ := hk.ex; rw [← hsz]; exact h1.lt
  have HCK := hid (fun (w1 : World) (hb : Below w.heap.size w w1) => hk.mono hb)
  have HLN := hid (fun (w1 : World) (hb : Below w.heap.size w w1) (j : Nat) (hj : j ∈ chosenN sel nulls (64 * sel.length)) => by
    obtain ⟨nu, lv, ev, nv, bef, q1, q2, q3, q4, q5, q6⟩ := (hk.mono hb).ex
    exact lane_I w1 g rows codec wd nu count lv ev base nv _ bef lanes j q1 q5 hlv hwd (hja j hj).1 (hja j hj).2.2)
  have HJA := hid hja
  have HGV := hid (fun (w0 : World) (hb : Below w.heap.size w w0) (U : Nat → Prop) (hU : ∀ k, k < w.heap.size → U k) (sb cb : Nat) (h1 : sb < w0.heap.size) (h2 : cb < w0.heap.size) (h3 : U sb) (h4 : U cb) (h5 : w0.cell? ⟨sb, 0, none⟩ = some sv) (h6 : w0.cell? ⟨cb, 0, none⟩ = some (.pointer (some ⟨g, 0, none⟩))) =>
    chosen_gives_I w g rows codec wd nulls count list ends base lanes hk hbm hnv hrr sv sel hs hsv hsl hsr hT w0 hb U hU sb cb h1 h2 h3 h4 h5 h6)
  obtain ⟨nu, lv, ev, nv, bef, q1, q2, q3, q4, q5, q6⟩ := hk.ex
  have HQ1 := hid q1
  obtain ⟨Al, cl, rfl, _, _, _⟩ := q3.form
  obtain ⟨As, cs, rfl, _, _, _⟩ := hs.form
  have hjl := chosenN_len sel nulls (64 * sel.length)
  have hjl2 : (chosenN sel nulls (64 * sel.length)).length ≤ 70000 := by omega
  clear hk hbm hnv hs hsv hsl hsr hT hlv hja q1 q2 q3 q4 q5 q6 hjl
  generalize chosenN sel nulls (64 * sel.length) = js at *
  generalize sel.length = sn at *
  obtain ⟨m, hm⟩ : ∃ m, list.length = m := ⟨_, rfl⟩
  have HM := hid hm
  simp only [hm] at hll HQ1 HJA ⊢
  rw [hsz] at HCK HLN HGV ⊢
  have HSZ := hid hsz
  clear hm
  have HQB : Hid (∀ w1 : World, Below s w w1 → w1.cell? ⟨g, 5, none⟩ = some (.slice Al m cl)) := hid (fun w1 hb => by rw [(HQ1.out.mono (by rw [hsz]; exact hb)).cell]; rfl)
  refine (callsIn_wide (n := 9)).1 ?_
  refine callsIn_of_wp_marks Tryz.func127 rfl trivial ?_ rfl
  simp only [Tryz.ntmps127, List.size_toArray, List.length_cons, List.length_nil, Nat.reduceAdd, Nat.reduceSub, Array.replicate_succ, Array.replicate_zero, List.push_toArray, List.append_toArray, List.nil_append, List.cons_append]
  refine wpIn_wide.2 ?_
  have hb1 : Below s w (w.alloc (.cells #[.pointer (some ⟨g, 0, none⟩)] 115)) := by rw [← hsz]; exact (brefl w).alloc (Nat.le_refl _) _
  have c5 := HQB.out _ hb1
  have hr1 : Row (w.alloc (.cells #[.pointer (some ⟨g, 0, none⟩)] 115)) s 115 [.pointer (some ⟨g, 0, none⟩)] := by rw [← hsz]; unfold Row; rw [heap_alloc_new]
  have hs1 : (w.alloc (.cells #[.pointer (some ⟨g, 0, none⟩)] 115)).heap.size = s + 1 := by simp [hsz]
  have HB1 := hid hb1; have HR1 := hid hr1; have HS1 := hid hs1
  clear hb1 hr1 hs1
  go_upto_region 1 with fail
  generalize w.alloc (.cells #[.pointer (some ⟨g, 0, none⟩)] 115) = w1 at *
  have d0 := HR1.out.cell 0
  simp only [List.getElem?_cons_zero] at d0
  go_wp2
  refine upon_make 3 (.int .i64 0) 8 Tryz.underlying92 Tryz.infoI64 rfl m (by omega) (by omega) (by omega) (by unfold maxLen; omega) ?_
  intro w2 hrow hb2 hsz2
  rw [HS1.out] at hrow hsz2 ⊢
  have HROW := hid hrow
  have hs1 := HS1.out
  have HB2 := hid (HB1.out.trans (hb2.mono (by omega)))
  have HR2 := hid (HR1.out.below hb2 (by omega))
  clear hrow hb2 d0 HR1 HB1 c5
  go_upto_region 2 with fail
  have HA3 := hid ((brefl w2).alloc (Nat.le_refl _) (.cells #[.slice (some ⟨s + 1, 0, none⟩) m m] 92))
  have HC3 : Hid (Row (w2.alloc (.cells #[.slice (some ⟨s + 1, 0, none⟩) m m] 92)) (s + 1 + 1) 92 [.slice (some ⟨s + 1, 0, none⟩) m m]) := hid (by rw [← hsz2]; unfold Row; rw [heap_alloc_new])
  have hs3 : (w2.alloc (.cells #[.slice (some ⟨s + 1, 0, none⟩) m m] 92)).heap.size = s + 1 + 1 + 1 := by simp [hsz2]
  have HS3 := hid hs3
  have HR3 := hid (HR2.out.mono HA3.out)
  have HN3 := hid (HROW.out.mono HA3.out)
  have HB3 := hid (HB2.out.trans (HA3.out.mono (by omega)))
  clear HR2 HROW HB2 HA3 hs3
  generalize w2.alloc (.cells #[.slice (some ⟨s + 1, 0, none⟩) m m] 92) = w3 at *
  clear hsz2
  have d0 := HR3.out.cell 0
  simp only [List.getElem?_cons_zero] at d0
  have HCO := hid (chosen_I w3 g As sn cs)
  have HA4 := hid ((((brefl w3).alloc (Nat.le_refl _) (.cells #[.pointer (some ⟨g, 0, none⟩)] 115))).alloc (by simp) (.cells #[.slice As sn cs] 28))
  have HZ4 : Hid (((w3.alloc (.cells #[.pointer (some ⟨g, 0, none⟩)] 115)).alloc (.cells #[.slice As sn cs] 28)).heap.size = s + 5) := hid (by have := HS3.out; simp; omega)
  have HP4 : Hid (((w3.alloc (.cells #[.pointer (some ⟨g, 0, none⟩)] 115)).alloc (.cells #[.slice As sn cs] 28)).cell? ⟨s + 1 + 1 + 1, 0, none⟩ = some (.pointer (some ⟨g, 0, none⟩))) := hid (by rw [← HS3.out]; simp)
  have HQ4 : Hid (((w3.alloc (.cells #[.pointer (some ⟨g, 0, none⟩)] 115)).alloc (.cells #[.slice As sn cs] 28)).cell? ⟨s + 1 + 1 + 1 + 1, 0, none⟩ = some (.slice As sn cs)) := hid (by rw [← HS3.out]; simp)
  rw [HS3.out] at HCO
  go_wp2_with (go_at_call 129; refine HCO.out.mono ?_; rintro e w4 ⟨rfl, hw4⟩; rw [← hw4] at HA4 HZ4 HP4 HQ4; clear hw4)
  have HR4 := hid (HR3.out.mono HA4.out)
  have HN4 := hid (HN3.out.mono HA4.out)
  have HC4 := hid (HC3.out.mono HA4.out)
  have HB4 := hid (HB3.out.trans (HA4.out.mono (by have := HS3.out; omega)))
  clear HR3 HN3 HC3 HB3 HA4 HCO HS3 HS1 d0
  have hz4 := HZ4.out
  refine wpIn_wide.1 (range_all (n := 9) rfl (gf := 170) (lb := #[.pointer (some ⟨s + 1 + 1 + 1 + 1, 0, none⟩), .pointer (some ⟨s + 1 + 1 + 1, 0, none⟩)]) rfl (enters_of Tryz.func170 (by kernel_rfl) rfl)
    (HGV.out w4 HB4.out (fun k => k < s ∨ k = s + 3 ∨ k = s + 4) (fun k hk => .inl hk) _ _ (by omega) (by omega) (.inr (.inr rfl)) (.inr (.inl rfl)) HQ4.out HP4.out) (brefl w4) (fun k hk => by omega) (fun _ => rfl)
    (fun pre W => Row W s 115 [.pointer (some ⟨g, 0, none⟩)] ∧ Row W (s + 1) 3 (ints (cntsL (L.laneOf wd lanes) pre m)) ∧ Row W (s + 1 + 1) 92 [.slice (some ⟨s + 1, 0, none⟩) m m] ∧ Below s w W)
    (fun pre A B h hb => ⟨h.1.below hb (by omega), h.2.1.below hb (by omega), h.2.2.1.below hb (by omega), h.2.2.2.trans (hb.mono (by omega))⟩)
    ⟨HR4.out, by rw [cntsL_nil]; exact HN4.out, HC4.out, HB4.out⟩
    (fun x => { tmps := #[.pointer (some ⟨g, 0, none⟩), .slice As sn cs, .pointer (some ⟨s, 0, none⟩), undef, .slice none 0 0, .pointer (some ⟨s + 1 + 1, 0, none⟩), .int .i64 (x : Int), .pointer (some ⟨g, 0, none⟩), .pointer (some ⟨g, 0, none⟩), .pointer (some ⟨g, 5, none⟩), .slice Al m cl, .int .i64 (m : Int), .slice (some ⟨s + 1, 0, none⟩) m m, .pointer (some ⟨g, 0, none⟩), .slice As sn cs, .func (.func 170) #[] #[.pointer (some ⟨s + 1 + 1 + 1 + 1, 0, none⟩), .pointer (some ⟨s + 1 + 1 + 1, 0, none⟩)], .int .i64 (x : Int), undef, undef, undef, undef, undef, undef, undef, undef, undef], defers := [] }) ?assign ?body ?done)
  case assign =>
    intro l x W K hK
    gi_wp2
    exact hK
  case body =>
    rintro l pre x W hpre ⟨r1, r2, r3, hbW⟩ hsW hmW
    obtain ⟨hmem, hpl⟩ := mem_prefix hpre
    obtain ⟨hx1, hx2, _⟩ := HJA.out x hmem
    have HLX := hid (fun (w9 : World) (hb : Below s w w9) => HLN.out w9 hb x hmem)
    have HSN := hid (cntsL_snoc (L.laneOf wd lanes) pre m x hx2)
    have hcl := cntOfF_le (L.laneOf wd lanes) pre (L.laneOf wd lanes x)
    have y1 := r2.cell (L.laneOf wd lanes x)
    rw [ints_cell _ _ (by rw [cntsL_len]; exact hx2), cntsL_get _ _ _ _ hx2] at y1
    have yf := r2.frozen (L.laneOf wd lanes x)
    have y2 := r3.cell 0
    have y3 := r1.cell 0
    simp only [List.getElem?_cons_zero] at y2 y3
    have HR1 := hid r1; have HR2 := hid r2; have HR3 := hid r3; have HBW := hid hbW
    have hxi : ((L.laneOf wd lanes x : Nat) : Int) < (m : Int) := by omega
    generalize cntOfF (L.laneOf wd lanes) pre (L.laneOf wd lanes x) = cn at *
    generalize hlx : L.laneOf wd lanes x = ln at *
    have hcn : cn ≤ 70000 := by omega
    have hmx : Tryz.prog.follows .mixedOrders = true := by kernel_rfl
    clear r1 r2 r3 hbW hlx
    gi_wp2
    gi_region_with_o (refine ⟨trivial, ?_⟩; gi_at_call 169; refine (CallsIn.inRound l (callsIn_wide.2 (HLX.out _ (Go.below_drewN HBW.out 1)))).mono ?_; rintro e w5 ⟨rfl, nd, rfl⟩)
    all_goals gi_wp2
    all_goals
      have hw : IntKind.i64.wrap ((cn : Int) + 1) = (cn : Int) + 1 := by rw [IntKind.wrap_i64]; omega
      rw [hw]
      refine ⟨⟨row_set_other HR1.out (by omega), ?_, row_set_other HR3.out (by omega), below_set (Go.below_drewN HBW.out _) _ _ _ (by omega)⟩, (Mid.drew W _).trans (Mid.set _ _ _ _ (by omega) (by omega))⟩
      rw [HSN.out]
      exact Row.set (w := W.drewN _) HR2.out ln _
  case done =>
    rintro W ⟨r1, r2, r3, hbW⟩ hmW hK
    have y2 := r3.cell 0
    simp only [List.getElem?_cons_zero] at y2
    have HR2 := hid r2; have HBW := hid hbW; have HKK := hid hK
    go_wp2_with fail
    have hput : Below w4.heap.size W (W.putObj w4.heap.size (.deferred none)) := put_below HKK.out (Nat.le_refl _)
    refine ⟨by simp, .inl ⟨_, _, rfl, run_takeDeferred HKK.out, ?_⟩⟩
    refine ⟨.slice (some ⟨s + 1, 0, none⟩) m m, ?_, _, rfl, by omega, HR2.out.below hput (by omega), HBW.out.trans (hput.mono (by omega))⟩
    simp [results, Tryz.results127, go_sem]
end Go.Proofs.YthonbfojpbfmgaaGreatDoor

/- bitvec's Dense and the plain answer's. -/
set_option linter.unusedVariables false
set_option linter.unusedSimpArgs false
set_option linter.unnecessarySimpa false
set_option maxRecDepth 20000
namespace Go.Proofs.YthonbfojpbfmgaaGreatDoor
open Go.RowKit

end Go.Proofs.YthonbfojpbfmgaaGreatDoor
