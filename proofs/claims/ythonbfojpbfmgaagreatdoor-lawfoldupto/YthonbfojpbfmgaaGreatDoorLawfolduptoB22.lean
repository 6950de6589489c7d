/- Package chunk: showTally (integers). -/
import Derived.Test.YthonbfojpbfmgaaGreatDoorLawfolduptoB7
import Derived.Test.YthonbfojpbfmgaaGreatDoorLawfolduptoB21
import Derived.Test.YthonbfojpbfmgaaGreatDoorLawfolduptoB11
import Derived.Deep.Onto
set_option linter.unusedVariables false
set_option linter.unusedSimpArgs false
set_option linter.unnecessarySimpa false
set_option maxRecDepth 100000
namespace Go.Proofs.YthonbfojpbfmgaaGreatDoor
open Go.RowKit Go.Shelf
attribute [local go_sem] Oper.semAt_some

set_option maxHeartbeats 4000000 in
theorem showTally_I (U : Nat → Prop) (b l : Nat) (J : List (Int × Nat) → World → Prop) (list : List Int) (cs : List Nat) (lv cv : Value) (n : Nat) (W : World) (hn : cs.length = n) (hll : list.length ≤ 16777216) (hcl : n ≤ list.length) (hc : ∀ k, k < n → cs.getD k 0 ≤ 1048576)
    (hlist : ∀ w9, Mid U b W w9 → Rd w9 lv list.length 1 (lstI list)) (hcs : ∀ w9, Mid U b W w9 → Rd w9 cv n 1 (ints cs))
    (hY : ∀ pre x w9, pre ++ [x] <+: shL dfI list cs n → J pre w9 → Mid U b W w9 → YieldAt Fence.wide 0 Tryz.prog l #[vI x.1, .int .i64 (x.2 : Nat)] w9 fun e W' => e = .returned (.bool true) ∧ J (pre ++ [x]) W' ∧ Mid U b w9 W') (h0 : J [] W) :
    Calls Tryz.prog 126 #[lv, cv, .func (.yield l) #[] #[]] W fun e W' => (∃ v, e = .returned v) ∧ J (shL dfI list cs n) W' ∧ Mid U b W W' := by
  have HL := hid hlist; have HC := hid hcs; have HY := hid hY; have HCN := hid hc; have HN := hid hn
  obtain ⟨A1, c1, rfl, _, _, _⟩ := (hlist W (Mid.refl _ _ _)).form
  obtain ⟨A2, c2, rfl, _, _, _⟩ := (hcs W (Mid.refl _ _ _)).form
  clear hlist hcs hY hc hn
  obtain ⟨m, hm⟩ : ∃ m, list.length = m := ⟨_, rfl⟩
  have HM := hid hm
  simp only [hm] at HL hll hcl ⊢
  clear hm
  refine (callsIn_wide (n := 9)).1 ?_
  refine callsIn_of_wp Tryz.func126 rfl trivial ?_ rfl
  simp only [Tryz.ntmps126, List.size_toArray, List.length_cons, List.length_nil, Nat.reduceAdd, Nat.reduceSub, Array.replicate_succ, Array.replicate_zero, List.push_toArray, List.append_toArray, List.nil_append, List.cons_append]
  gi_wp2
  gi_loopw [10] (fun i wr => ∃ k : Nat, k ≤ n ∧ i = .int .i64 k ∧ Hid (J (shL dfI list cs k) wr) ∧ Hid (Mid U b W wr)) (fun i _ => n - (intOf i).toNat)
  case atStart => exact ⟨0, Nat.zero_le _, rfl, hid h0, hid (Mid.refl _ _ _)⟩
  case round =>
    obtain ⟨k, hk, rfl, HJ, HMD⟩ := hrel
    by_cases hlt : k < n
    · obtain ⟨b1, o1, rfl, hs1⟩ := (HL.out wr HMD.out).at (by omega)
      obtain ⟨b2, o2, rfl, hs2⟩ := (HC.out wr HMD.out).at (by omega)
      have x1 := hs1 k _ (lstI_get list k (by rw [HM.out]; omega))
      have x2 := hs2 k _ (ints_cell cs k (by rw [HN.out]; exact hlt))
      have hcn := HCN.out k hlt
      have HSU := hid (shL_succ dfI list cs k)
      have hkm : (k : Int) < (m : Int) := by omega
      unfold vI at x1
      clear hs1 hs2
      have HYK := hid (fun (h : 0 < cs.getD k 0) => yield_any (m' := 8) (HY.out (shL dfI list cs k) (list.getD k dfI, cs.getD k 0) wr (by
        have := shL_succ dfI list cs k
        rw [if_pos h] at this
        rw [← this]; exact shL_prefix _ _ _ (by omega)) HJ.out HMD.out))
      simp only at HYK
      generalize list.getD k dfI = x at *
      generalize cs.getD k 0 = c at *
      by_cases hc0 : 0 < c
      · rw [if_pos hc0] at HSU
        obtain ⟨fn, tmps, assign, body, hy, hR⟩ := HYK.out hc0
        unfold vI at hy
        have hci : (0 : Int) < (c : Int) := by omega
        gi_wp2
        refine hR.mono ?_
        rintro e w5 ⟨rfl, hj5, hm5⟩
        have HJ5 := hid hj5; have HM5 := hid (HMD.out.trans hm5)
        clear hj5 hm5
        gi_wp2
        go_roundw
        case rel => exact ⟨k + 1, by omega, by go_num, hid (by rw [HSU.out]; exact HJ5.out), HM5⟩
        case measure => simp [intOf]; omega
      · rw [if_neg hc0] at HSU
        have hci : ¬ (0 : Int) < (c : Int) := by omega
        gi_wp2
        refine ⟨fun _ h => (by cases h), ?_⟩
        gi_wp2
        go_roundw
        case rel => exact ⟨k + 1, by omega, by go_num, hid (by rw [HSU.out]; exact HJ.out), HMD⟩
        case measure => simp [intOf]; omega
    · obtain rfl : k = n := by omega
      gi_wp2
      go_end0
      exact ⟨⟨_, rfl⟩, HJ.out, HMD.out⟩
end Go.Proofs.YthonbfojpbfmgaaGreatDoor

/- Package chunk: Tally (integers). -/
set_option linter.unusedVariables false
set_option linter.unusedSimpArgs false
set_option linter.unnecessarySimpa false
set_option maxRecDepth 100000
namespace Go.Proofs.YthonbfojpbfmgaaGreatDoor
open Go.RowKit Go.Shelf
attribute [local go_sem] Oper.semAt_some

/-- what a tally shows: the values of the chosen rows, each with how often it is shown for -/
def tallyP_I (codec wd : Nat) (list : List Int) (ends : List Nat) (base : Int) (lanes js : List Nat) : List (Int × Nat) :=
  if codec = 2 then shL dfI list (cntsL (L.laneOf wd lanes) js list.length) list.length
  else if codec = 3 then shL dfI list (cntsL (runOf ends) js list.length) list.length
  else js.map fun j => (vl_I codec wd list ends base lanes j, 1)
/-- what a chunk must have, for a tally -/
structure TlD_I (codec wd : Nat) (list : List Int) (ends : List Nat) (lanes js : List Nat) : Prop where
  ll : list.length ≤ 16777216
  el : ends.length ≤ 16777216
  lv : ∀ x ∈ lanes, x < 18446744073709551616
  w64 : wd ≤ 64
  jj : ∀ j ∈ js, j ≤ 65536 ∧ okv_I codec wd list ends lanes j
  two : codec = 2 → ∀ j ∈ js, j ≤ 65536 ∧ L.laneOf wd lanes j < list.length ∧ (0 < wd → j / (64 / wd) < lanes.length)
  three : codec = 3 → (∀ a b, a < b → b < (nI ends).length → (nI ends).getD a 0 < (nI ends).getD b 0) ∧ ends.length = list.length ∧ ∀ j ∈ js, j ≤ 65536 ∧ firstGe (nI ends) ((j : Int) + 1) < ends.length
theorem Tally_I (w : World) (g : Nat) (A : Option Addr) (n c : Nat) : Calls Tryz.prog 71 #[.pointer (some ⟨g, 0, none⟩), .slice A n c] w fun e w' =>
    e = .returned (.func (.func 125) #[] #[.pointer (some ⟨w.heap.size, 0, none⟩), .pointer (some ⟨w.heap.size + 1, 0, none⟩)]) ∧ w' = (w.alloc (.cells #[.pointer (some ⟨g, 0, none⟩)] 115)).alloc (.cells #[.slice A n c] 28) := by
  go_enter Tryz.func71, Tryz.ntmps71
  go_wp2_with fail
  go_ret
  exact ⟨rfl, rfl⟩
set_option maxHeartbeats 8000000 in
theorem tally_gives_I (wc : World) (g rows codec wd : Nat) (nulls : List Nat) (count : Int) (list : List Int) (ends : List Nat) (base : Int) (lanes : List Nat) (hk : Ck_I wc g rows codec wd nulls count list ends base lanes) (hbm : nulls.length = (rows + 63) / 64) (hnv : ∀ x ∈ nulls, x < 18446744073709551616) (hrr : rows ≤ 65536)
    (sv : Value) (sel : List Nat) (hs : Rd wc sv sel.length 1 (u64s sel)) (hsv : ∀ x ∈ sel, x < 18446744073709551616) (hsl : sel.length = (rows + 63) / 64) (hsr : ∀ r, bitOf sel r = true → r < rows) (hT : Tab wc)
    (hd : TlD_I codec wd list ends lanes (chosenN sel nulls (64 * sel.length)))
    (w0 : World) (hw : Below wc.heap.size wc w0) (U : Nat → Prop) (hU : ∀ k, k < wc.heap.size → U k) (hU0 : ∀ k, U k → k < w0.heap.size) (sb cb : Nat) (hsb : sb < w0.heap.size) (hcb : cb < w0.heap.size) (hUs : U sb) (hUc : U cb) (hcs : w0.cell? ⟨sb, 0, none⟩ = some sv) (hcc : w0.cell? ⟨cb, 0, none⟩ = some (.pointer (some ⟨g, 0, none⟩))) :
    Gives Tryz.prog 125 #[.pointer (some ⟨cb, 0, none⟩), .pointer (some ⟨sb, 0, none⟩)] (fun p : Int × Nat => #[vI p.1, .int .i64 (p.2 : Nat)]) U (tallyP_I codec wd list ends base lanes (chosenN sel nulls (64 * sel.length))) w0 := by
  intro l J W hW hJ hY h0
  obtain ⟨s, hsz⟩ : ∃ s, W.heap.size = s := ⟨_, rfl⟩
  have hws : w0.heap.size ≤ s := by rw [← hsz]; exact hW.size
  have hcw : wc.heap.size ≤ w0.heap.size := hw.size
  have hbW : Below wc.heap.size wc W := hw.trans (hW.mono hw.size)
  -- what is known of a world between two rounds
  have HCH := hid (fun (w1 : World) (hm : Mid U W.heap.size W w1) => (show Below wc.heap.size wc w1 from hbW.trans (hm.below (by omega) hU)))
  have HCB := hid (fun (w1 : World) (hm : Mid U W.heap.size W w1) => (show w1.cell? ⟨cb, 0, none⟩ = some (.pointer (some ⟨g, 0, none⟩)) from by
    rw [cell_at (hm.keep cb (Nat.lt_of_lt_of_le hcb hW.size) (.inl hUc)), cell_at (hW.block cb hcb)]; exact hcc))
  have HSB := hid (fun (w1 : World) (hm : Mid U W.heap.size W w1) => (show w1.cell? ⟨sb, 0, none⟩ = some sv from by
    rw [cell_at (hm.keep sb (Nat.lt_of_lt_of_le hsb hW.size) (.inl hUs)), cell_at (hW.block sb hsb)]; exact hcs))
  obtain ⟨As, ns, cs, hsve⟩ : ∃ As ns cs, sv = .slice As ns cs := by obtain ⟨A, c, h, _⟩ := hs.form; exact ⟨A, _, c, h⟩
  obtain ⟨nu, lv, ev, nv, bef, q1, q2, q3, q4, q5, q6⟩ := hk.ex
  have HRW := hid (fun (w1 : World) (hb : Below wc.heap.size wc w1) => q1.mono hb)
  have HLV := hid (fun (w1 : World) (hb : Below wc.heap.size wc w1) => q3.mono hb)
  have HTC := hid (fun (h2 : codec = 2) (w1 : World) (hb : Below wc.heap.size wc w1) => tallyCodes_I w1 g rows codec wd nulls count list ends base lanes (hk.mono hb) hbm hnv hrr sv sel (hs.mono hb) hsv hsl hsr (hT.mono hb hT.lt) hd.ll hd.lv hd.w64 (hd.two h2))
  have HTR := hid (fun (h3 : codec = 3) (w1 : World) (hb : Below wc.heap.size wc w1) => tallyRuns_I w1 g rows codec wd nulls count list ends base lanes (hk.mono hb) hbm hnv hrr sv sel (hs.mono hb) hsv hsl hsr (hT.mono hb hT.lt) hd.ll (hd.three h3).1 (hd.three h3).2.1 (hd.three h3).2.2)
  have hjl : (chosenN sel nulls (64 * sel.length)).length ≤ 70000 := by have := chosenN_len sel nulls (64 * sel.length); omega
  have hcnt : ∀ f k, (cntsL f (chosenN sel nulls (64 * sel.length)) list.length).getD k 0 ≤ 1048576 := fun f k => by
    by_cases hk2 : k < list.length
    · rw [cntsL_get _ _ _ _ hk2]; have := cntOfF_le f (chosenN sel nulls (64 * sel.length)) k; omega
    · simp [List.getD, List.getElem?_eq_none (show (cntsL f (chosenN sel nulls (64 * sel.length)) list.length).length ≤ k by rw [cntsL_len]; omega)]
  have HVL := hid (fun (w1 : World) (hb : Below wc.heap.size wc w1) (j : Nat) (hj : j ∈ chosenN sel nulls (64 * sel.length)) => ValueAll_I w1 g rows codec wd nulls count list ends base lanes j (hk.mono hb) hd.el hd.ll hd.lv (hd.jj j hj).1 (hd.jj j hj).2)
  have HCG := hid (fun (w1 : World) (hb : Below wc.heap.size wc w1) (V : Nat → Prop) (hV : ∀ k, k < wc.heap.size → V k) (sb1 cb1 : Nat) (h1 : sb1 < w1.heap.size) (h2 : cb1 < w1.heap.size) (h3 : V sb1) (h4 : V cb1) (h5 : w1.cell? ⟨sb1, 0, none⟩ = some sv) (h6 : w1.cell? ⟨cb1, 0, none⟩ = some (.pointer (some ⟨g, 0, none⟩))) =>
    chosen_gives_I wc g rows codec wd nulls count list ends base lanes hk hbm hnv hrr sv sel hs hsv hsl hsr hT w1 hb V hV sb1 cb1 h1 h2 h3 h4 h5 h6)
  have hll := hd.ll
  clear hk hbm hnv hs hsv hsl hsr hT hd q1 q2 q3 q4 q5 q6 hcs hcc
  generalize chosenN sel nulls (64 * sel.length) = js at *
  subst hsve
  obtain ⟨Al, cl, hlv⟩ : ∃ Al cl, lv = .slice Al list.length cl := by obtain ⟨A, c, h, _⟩ := (HLV.out wc (brefl wc)).form; exact ⟨A, c, h⟩
  subst hlv
  have HC1 : Hid (∀ w1 : World, Below wc.heap.size wc w1 → w1.cell? ⟨g, 1, none⟩ = some (.int .i64 (codec : Nat))) := hid (fun w1 hb => by rw [(HRW.out w1 hb).cell]; rfl)
  have HC5 : Hid (∀ w1 : World, Below wc.heap.size wc w1 → w1.cell? ⟨g, 5, none⟩ = some (.slice Al list.length cl)) := hid (fun w1 hb => by rw [(HRW.out w1 hb).cell]; rfl)
  have hrow : Row (W.alloc (.cells #[.func (.yield l) #[] #[]] 178)) s 178 [.func (.yield l) #[] #[]] := by rw [← hsz]; unfold Row; rw [heap_alloc_new]
  have hm1 : Mid U W.heap.size W (W.alloc (.cells #[.func (.yield l) #[] #[]] 178)) := Mid.of_below ((brefl W).alloc (Nat.le_refl _) _)
  have hz1 : (W.alloc (.cells #[.func (.yield l) #[] #[]] 178)).heap.size = s + 1 := by simp [hsz]
  have HJ1 := hid (hJ _ _ _ h0 ((brefl W).alloc (Nat.le_refl _) (.cells #[.func (.yield l) #[] #[]] 178)))
  have HROW := hid hrow; have HM1 := hid hm1; have HZ1 := hid hz1
  have HY := hid hY; have HJ := hid hJ
  clear hrow hm1 hz1 hY hJ h0
  refine (callsIn_wide (n := 9)).1 ?_
  refine callsIn_of_wp_marks Tryz.func125 rfl trivial ?_ rfl
  simp only [Tryz.ntmps125, List.size_toArray, List.length_cons, List.length_nil, Nat.reduceAdd, Nat.reduceSub, Array.replicate_succ, Array.replicate_zero, List.push_toArray, List.append_toArray, List.nil_append, List.cons_append]
  refine wpIn_wide.2 ?_
  go_upto_region 1 with fail
  generalize W.alloc (.cells #[.func (.yield l) #[] #[]] 178) = W1 at *
  have hb1 := HCH.out W1 HM1.out
  have k0 := HCB.out W1 HM1.out
  have k1 := HSB.out W1 HM1.out
  have k2 := HC1.out W1 hb1
  have k3 := HC5.out W1 hb1
  have k4 := HROW.out.cell 0
  simp only [List.getElem?_cons_zero] at k4
  have hmx : Tryz.prog.follows .mixedOrders = true := by kernel_rfl
  have HSZ1 := hid (show ∀ (w2 : World), Below W1.heap.size W1 w2 → Mid U W.heap.size W w2 from fun w2 hb => HM1.out.trans (Mid.of_below hb))
  have HJS := hid (show ∀ (w2 : World), Below W1.heap.size W1 w2 → J [] w2 from fun w2 hb => HJ.out _ _ _ HJ1.out (hb.mono (by rw [HZ1.out, hsz]; omega)))
  -- showTally, whatever was counted
  have HST := hid (fun (w2 : World) (hb : Below W1.heap.size W1 w2) (f : Nat → Nat) (gc : Nat) (hg : W.heap.size ≤ gc) (hr : Row w2 gc 3 (ints (cntsL f js list.length))) =>
    showTally_I U W.heap.size l J list (cntsL f js list.length) (.slice Al list.length cl) (.slice (some ⟨gc, 0, none⟩) list.length list.length) list.length w2 (cntsL_len _ _ _) hll (Nat.le_refl _) (fun k _ => hcnt f k)
      (fun w9 h9 => HLV.out w9 (HCH.out w9 ((HSZ1.out w2 hb).trans h9))) (fun w9 h9 => h9.rd hr hg (by simp [ints, cntsL]) (by unfold maxLen; omega)))
  by_cases h2 : codec = 2
  · have hty : tallyP_I codec wd list ends base lanes js = shL dfI list (cntsL (L.laneOf wd lanes) js list.length) list.length := by unfold tallyP_I; rw [if_pos h2]
    rw [hty] at HY
    have HTY := hid hty
    have HTC2 := hid (HTC.out h2)
    have HYS := hid (fun (w2 : World) (hb : Below W1.heap.size W1 w2) (pre : List (Int × Nat)) (x : Int × Nat) (w9 : World) (hp : pre ++ [x] <+: shL dfI list (cntsL (L.laneOf wd lanes) js list.length) list.length) (hj : J pre w9) (h9 : Mid U W.heap.size w2 w9) => HY.out pre x w9 hp hj ((HSZ1.out w2 hb).trans h9).low.size ((HSZ1.out w2 hb).trans h9))
    subst h2
    clear hty HTC HTR HVL HCG hcnt
    go_upto_region 6 with fail
    go_region_held3 (fun w' => w'.cell? ⟨cb, 0, none⟩ = some (.pointer (some ⟨g, 0, none⟩)) ∧ w'.cell? ⟨sb, 0, none⟩ = some (.slice As ns cs) ∧ w'.cell? ⟨s, 0, none⟩ = some (.func (.yield l) #[] #[]) ∧ w'.cell? ⟨g, 5, none⟩ = some (.slice Al list.length cl)) (first | go_keep)
      (first
        | (go_at_call 127; refine (HTC2.out _ (Go.below_drewN hb1 1)).mono ?_; rintro e w2 ⟨gc, rfl, hg2, hr2, hb2⟩; have HB2 : Hid (Below W1.heap.size W1 w2) := hid (bthen (bdrew (brefl W1) 1) hb2); have HR2 := hid hr2; have hgc : W.heap.size ≤ gc := (by have h9 := HZ1.out; have hg3 : W1.heap.size ≤ gc := hg2; omega); have HM2 := hid (HSZ1.out w2 HB2.out); have HRY2 := hid (HROW.out.mono HB2.out); have n0 := HCB.out w2 HM2.out; have n1 := HSB.out w2 HM2.out; have n2 := HRY2.out.cell 0; have n3 := HC5.out w2 (HCH.out w2 HM2.out); simp only [List.getElem?_cons_zero] at n2)
        | (go_at_call 126; refine (HST.out w2 HB2.out _ gc hgc HR2.out (HYS.out w2 HB2.out) (HJS.out w2 HB2.out)).mono ?_; rintro e w3 ⟨⟨v3, rfl⟩, hj3, hm3⟩; have HJ3 := hid hj3; have HM3 := hid (HM2.out.trans hm3); have HRY3 := hid (hm3.row HRY2.out (.inr (by omega))); have y0 := HCB.out w3 HM3.out; have y1 := HSB.out w3 HM3.out; have y2 := HRY3.out.cell 0; have y3 := HC5.out w3 (HCH.out w3 HM3.out); simp only [List.getElem?_cons_zero] at y2; clear hj3 hm3))
    all_goals (try simp only [Exit.inBlock, Exit.then])
    all_goals exact ⟨_, results_none rfl _ _ _, ⟨_, rfl⟩, by rw [HTY.out]; exact HJ3.out, HM3.out⟩
  by_cases h3 : codec = 3
  · have hty : tallyP_I codec wd list ends base lanes js = shL dfI list (cntsL (runOf ends) js list.length) list.length := by unfold tallyP_I; rw [if_neg h2, if_pos h3]
    rw [hty] at HY
    have HTY := hid hty
    have HTC2 := hid (HTR.out h3)
    have HYS := hid (fun (w2 : World) (hb : Below W1.heap.size W1 w2) (pre : List (Int × Nat)) (x : Int × Nat) (w9 : World) (hp : pre ++ [x] <+: shL dfI list (cntsL (runOf ends) js list.length) list.length) (hj : J pre w9) (h9 : Mid U W.heap.size w2 w9) => HY.out pre x w9 hp hj ((HSZ1.out w2 hb).trans h9).low.size ((HSZ1.out w2 hb).trans h9))
    subst h3
    clear h2
    clear hty HTC HTR HVL HCG hcnt
    go_upto_region 8 with fail
    go_region_held3 (fun w' => w'.cell? ⟨cb, 0, none⟩ = some (.pointer (some ⟨g, 0, none⟩)) ∧ w'.cell? ⟨sb, 0, none⟩ = some (.slice As ns cs) ∧ w'.cell? ⟨s, 0, none⟩ = some (.func (.yield l) #[] #[]) ∧ w'.cell? ⟨g, 5, none⟩ = some (.slice Al list.length cl)) (first | go_keep)
      (first
        | (go_at_call 128; refine (HTC2.out _ (Go.below_drewN hb1 1)).mono ?_; rintro e w2 ⟨gc, rfl, hg2, hr2, hb2⟩; have HB2 : Hid (Below W1.heap.size W1 w2) := hid (bthen (bdrew (brefl W1) 1) hb2); have HR2 := hid hr2; have hgc : W.heap.size ≤ gc := (by have h9 := HZ1.out; have hg3 : W1.heap.size ≤ gc := hg2; omega); have HM2 := hid (HSZ1.out w2 HB2.out); have HRY2 := hid (HROW.out.mono HB2.out); have n0 := HCB.out w2 HM2.out; have n1 := HSB.out w2 HM2.out; have n2 := HRY2.out.cell 0; have n3 := HC5.out w2 (HCH.out w2 HM2.out); simp only [List.getElem?_cons_zero] at n2)
        | (go_at_call 126; refine (HST.out w2 HB2.out _ gc hgc HR2.out (HYS.out w2 HB2.out) (HJS.out w2 HB2.out)).mono ?_; rintro e w3 ⟨⟨v3, rfl⟩, hj3, hm3⟩; have HJ3 := hid hj3; have HM3 := hid (HM2.out.trans hm3); have HRY3 := hid (hm3.row HRY2.out (.inr (by omega))); have y0 := HCB.out w3 HM3.out; have y1 := HSB.out w3 HM3.out; have y2 := HRY3.out.cell 0; have y3 := HC5.out w3 (HCH.out w3 HM3.out); simp only [List.getElem?_cons_zero] at y2; clear hj3 hm3))
    all_goals (try simp only [Exit.inBlock, Exit.then])
    all_goals exact ⟨_, results_none rfl _ _ _, ⟨_, rfl⟩, by rw [HTY.out]; exact HJ3.out, HM3.out⟩
  have hty : tallyP_I codec wd list ends base lanes js = js.map fun j => (vl_I codec wd list ends base lanes j, 1) := by unfold tallyP_I; rw [if_neg h2, if_neg h3]
  rw [hty] at HY
  have HTY := hid hty
  have e2 : ((codec : Int) == 2) = false := by simp; omega
  have e3 : ((codec : Int) == 3) = false := by simp; omega
  clear hty HTC HTR hcnt HST k3
  have HCO := hid (chosen_I W1 g As ns cs)
  have HA4 := hid ((((brefl W1).alloc (Nat.le_refl _) (.cells #[.pointer (some ⟨g, 0, none⟩)] 115))).alloc (by simp) (.cells #[.slice As ns cs] 28))
  have HZ4 : Hid (((W1.alloc (.cells #[.pointer (some ⟨g, 0, none⟩)] 115)).alloc (.cells #[.slice As ns cs] 28)).heap.size = s + 3) := hid (by have := HZ1.out; simp; omega)
  have HP4 : Hid (((W1.alloc (.cells #[.pointer (some ⟨g, 0, none⟩)] 115)).alloc (.cells #[.slice As ns cs] 28)).cell? ⟨s + 1, 0, none⟩ = some (.pointer (some ⟨g, 0, none⟩))) := hid (by rw [← HZ1.out]; simp)
  have HQ4 : Hid (((W1.alloc (.cells #[.pointer (some ⟨g, 0, none⟩)] 115)).alloc (.cells #[.slice As ns cs] 28)).cell? ⟨s + 1 + 1, 0, none⟩ = some (.slice As ns cs)) := hid (by rw [← HZ1.out]; simp)
  rw [HZ1.out] at HCO
  go_wp2_with (go_at_call 129; refine HCO.out.mono ?_; rintro e w4 ⟨rfl, hw4⟩; rw [← hw4] at HA4 HZ4 HP4 HQ4; clear hw4)
  have hz4 := HZ4.out
  have HR4 := hid (HROW.out.mono HA4.out)
  have HM4 := hid (HSZ1.out w4 HA4.out)
  have HJ4 := hid (HJS.out w4 HA4.out)
  refine wpIn_wide.1 (range_all (n := 9) rfl (gf := 170) (lb := #[.pointer (some ⟨s + 1 + 1, 0, none⟩), .pointer (some ⟨s + 1, 0, none⟩)]) rfl (enters_of Tryz.func170 (by kernel_rfl) rfl)
    (HCG.out w4 (HCH.out w4 HM4.out) (fun k => U k ∨ k = s + 1 ∨ k = s + 2) (fun k hk => .inl (hU k hk)) _ _ (by omega) (by omega) (.inr (.inr rfl)) (.inr (.inl rfl)) HQ4.out HP4.out) (brefl w4) (fun k hk => by rcases hk with hk | hk; (have := hU0 k hk; omega); omega) (fun _ => rfl)
    (fun pre W' => J (pre.map fun j => (vl_I codec wd list ends base lanes j, 1)) W' ∧ Row W' s 178 [.func (.yield l) #[] #[]] ∧ Mid U W.heap.size W W')
    (fun pre A B h hb => ⟨HJ.out _ _ _ h.1 (hb.mono (by omega)), h.2.1.below hb (by omega), ⟨h.2.2.low.trans (hb.mono (Nat.zero_le _)), fun k hk hk2 => (hb.block k (by omega)).trans (h.2.2.keep k hk hk2)⟩⟩)
    ⟨HJ4.out, HR4.out, HM4.out⟩
    (fun x => { tmps := #[.func (.yield l) #[] #[], .pointer (some ⟨cb, 0, none⟩), .pointer (some ⟨sb, 0, none⟩), .pointer (some ⟨s, 0, none⟩), .int .i64 (x : Int), .pointer (some ⟨g, 0, none⟩), .pointer (some ⟨g, 0, none⟩), .pointer (some ⟨g, 1, none⟩), .int .i64 (codec : Int), .pointer (some ⟨g, 0, none⟩), .slice As ns cs, .func (.func 170) #[] #[.pointer (some ⟨s + 1 + 1, 0, none⟩), .pointer (some ⟨s + 1, 0, none⟩)], .int .i64 (x : Int), undef, undef, undef, undef, undef, undef, .bool false, .bool false, undef, undef, undef, undef, undef, undef, undef, undef, undef, .bool false, .bool false, undef, undef, undef, undef, undef, undef, undef, undef, undef], defers := [] }) ?assign ?body ?done)
  case assign =>
    intro l x W K hK
    gi_wp2
    exact hK
  case body =>
    rintro l2 pre x W' hpre ⟨r1, r2, r3⟩ hsW hmW
    have HCW := hid (HCH.out W' r3)
    have y1 := HCB.out W' r3
    have y2 := r2.cell 0
    simp only [List.getElem?_cons_zero] at y2
    have HR1 := hid r1; have HR2 := hid r2; have HR3 := hid r3
    have HVX := hid (fun (w9 : World) (hb : Below wc.heap.size wc w9) => HVL.out w9 hb x (mem_prefix hpre).1)
    have hpm : (pre.map fun j => (vl_I codec wd list ends base lanes j, 1)) ++ [(vl_I codec wd list ends base lanes x, 1)] <+: js.map fun j => (vl_I codec wd list ends base lanes j, 1) := by
      have := hpre.map fun j => (vl_I codec wd list ends base lanes j, 1)
      simpa using this
    have HYX : Hid (∀ w9 : World, Below W'.heap.size W' w9 → YieldAt Fence.wide 8 Tryz.prog l #[vI (vl_I codec wd list ends base lanes x), .int .i64 1] w9 fun e W9 => e = .returned (.bool true) ∧ J ((pre.map fun j => (vl_I codec wd list ends base lanes j, 1)) ++ [(vl_I codec wd list ends base lanes x, 1)]) W9 ∧ Mid U W.heap.size w9 W9) := hid (fun (w9 : World) (hb : Below W'.heap.size W' w9) => yield_any (m' := 8) (HY.out _ (vl_I codec wd list ends base lanes x, 1) w9 hpm (HJ.out _ _ _ HR1.out (hb.mono HR3.out.low.size)) (Nat.le_trans HR3.out.low.size hb.size) (HR3.out.trans (Mid.of_below hb))))
    have HMA : Hid ((pre ++ [x]).map (fun j => (vl_I codec wd list ends base lanes j, 1)) = (pre.map fun j => (vl_I codec wd list ends base lanes j, 1)) ++ [(vl_I codec wd list ends base lanes x, 1)]) := hid (by simp)
    obtain ⟨vx, hvx⟩ : ∃ vx, vl_I codec wd list ends base lanes x = vx := ⟨_, rfl⟩
    rw [hvx] at HVX HYX
    have HVV := hid hvx
    clear r1 r2 r3 hpm hvx
    unfold vI at HVX HYX
    gi_wp2
    gi_region_with_o (first
      | (refine ⟨trivial, ?_⟩; gi_at_call 130; refine (CallsIn.inRound l2 (callsIn_wide.2 (HVX.out _ (Go.below_drewN HCW.out 1)))).mono ?_; rintro e w5 ⟨rfl, hb5⟩; have HB5 : Hid (Below W'.heap.size W' w5) := hid (bthen (bdrew (brefl W') 1) hb5); obtain ⟨fn, tmps, assign, body, hy, hR⟩ := HYX.out w5 HB5.out; have hR2 := round_inRound l2 hR; have HRY5 := hid (HR2.out.mono HB5.out); have n2 := HRY5.out.cell 0; simp only [List.getElem?_cons_zero] at n2; clear hb5)
      | (refine hR2.mono ?_; rintro e w6 ⟨rfl, hj6, hm6⟩; have HJ6 := hid hj6; have HM6 := hid hm6; clear hj6 hm6))
    all_goals gi_wp2
    all_goals refine ⟨⟨by rw [HVV.out]; exact HJ6.out, ?_, ?_⟩, ?_⟩
    all_goals first
      | exact HM6.out.row HRY5.out (.inr (by rw [hsz]; exact Nat.le_refl _))
      | (have h9 := (HR3.out.trans (Mid.of_below HB5.out)).trans HM6.out
         rw [hsz] at h9
         exact h9)
      | (have h9 := (Mid.of_below (U := fun k => U k ∨ k = s + 1 ∨ k = s + 2) (b := w4.heap.size) HB5.out).trans (HM6.out.sub (V := fun k => U k ∨ k = s + 1 ∨ k = s + 2) (b' := w4.heap.size) (fun k hk => by
           rcases hk with hk | hk | hk
           · exact .inl hk
           · right; omega
           · right; omega) (by omega))
         rw [hz4] at h9
         exact h9)
  case done =>
    rintro W' ⟨r1, r2, r3⟩ hmW hK
    have HR1 := hid r1; have HR3 := hid r3; have HKK := hid hK
    go_wp2_with fail
    refine ⟨by simp, .inl ⟨_, _, rfl, run_takeDeferred HKK.out, ?_⟩⟩
    refine ⟨_, results_none rfl _ _ _, ⟨_, rfl⟩, by rw [HTY.out]; exact HJ.out _ _ _ HR1.out ((put_below HKK.out (Nat.le_refl _)).mono (by omega)), ?_⟩
    exact ⟨HR3.out.low.trans (put_below HKK.out (Nat.zero_le _)), fun k hk hk2 => (World.putObj_heap_other (by omega)).trans (HR3.out.keep k hk hk2)⟩
end Go.Proofs.YthonbfojpbfmgaaGreatDoor

/- Package kernel: the hits of a chunk whose values stand in lanes (integers). -/
set_option linter.unusedVariables false
set_option linter.unusedSimpArgs false
set_option linter.unnecessarySimpa false
set_option maxRecDepth 100000
namespace Go.Proofs.YthonbfojpbfmgaaGreatDoor
open Go.RowKit

end Go.Proofs.YthonbfojpbfmgaaGreatDoor

/- Package kernel: the hits of a chunk (integers). -/
set_option linter.unusedVariables false
set_option linter.unusedSimpArgs false
set_option linter.unnecessarySimpa false
set_option maxRecDepth 100000
namespace Go.Proofs.YthonbfojpbfmgaaGreatDoor
open Go.RowKit

/-- a chunk's values: what is known of them, by codec -/
def HitD_I (codec wd count : Nat) (list : List Int) (ends : List Nat) (base : Int) (lanes : List Nat) : Prop :=
  (codec = 1 ∧ list.length = count ∧ count ≤ 65536) ∨
  (codec = 3 ∧ list.length = ends.length ∧ count ≤ 65536 ∧ ends.length ≤ 65536 ∧ (∀ a b, a < b → b < ends.length → ends.getD a 0 < ends.getD b 0) ∧ endB ends ends.length = count) ∨
  LnD_I codec wd count list base lanes
end Go.Proofs.YthonbfojpbfmgaaGreatDoor

/- The plain answer's Dense. -/
set_option maxRecDepth 512
set_option linter.unusedVariables false
set_option linter.unusedSimpArgs false
set_option linter.unnecessarySimpa false
namespace Go.Proofs.YthonbfojpbfmgaaGreatDoor
open Go.RowKit

end Go.Proofs.YthonbfojpbfmgaaGreatDoor

/- bitvec's Expand and the plain answer's. -/
set_option linter.unusedVariables false
set_option maxRecDepth 100000
set_option linter.unusedSimpArgs false
set_option linter.unnecessarySimpa false
namespace Go.Proofs.YthonbfojpbfmgaaGreatDoor
open Go.RowKit

end Go.Proofs.YthonbfojpbfmgaaGreatDoor
