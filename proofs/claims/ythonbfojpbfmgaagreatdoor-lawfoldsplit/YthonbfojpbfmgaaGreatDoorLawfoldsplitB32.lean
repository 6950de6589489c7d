/- Package chunk: Tally (strings). -/
import Derived.Test.YthonbfojpbfmgaaGreatDoorLawfoldsplitB31
import Derived.Test.YthonbfojpbfmgaaGreatDoorLawfoldsplitB10
import Derived.Test.YthonbfojpbfmgaaGreatDoorLawfoldsplitB30
import Derived.Test.YthonbfojpbfmgaaGreatDoorLawfoldsplitB27
import Derived.Test.YthonbfojpbfmgaaGreatDoorLawfoldsplitB28
set_option linter.unusedVariables false
set_option linter.unusedSimpArgs false
set_option linter.unnecessarySimpa false
set_option maxRecDepth 100000
namespace Go.Proofs.YthonbfojpbfmgaaGreatDoor
open Go.RowKit Go.Shelf
attribute [local go_sem] Oper.semAt_some

/-- what a tally shows: the values of the chosen rows, each with how often it is shown for -/
def tallyP_S (codec wd : Nat) (list : List ByteArray) (ends : List Nat) (base : Int) (lanes js : List Nat) : List (ByteArray × Nat) :=
  if codec = 2 then shL dfS list (cntsL (L.laneOf wd lanes) js list.length) list.length
  else if codec = 3 then shL dfS list (cntsL (runOf ends) js list.length) list.length
  else js.map fun j => (vl_S codec wd list ends base lanes j, 1)
/-- what a chunk must have, for a tally -/
structure TlD_S (codec wd : Nat) (list : List ByteArray) (ends : List Nat) (lanes js : List Nat) : Prop where
  ll : list.length ≤ 16777216
  el : ends.length ≤ 16777216
  lv : ∀ x ∈ lanes, x < 18446744073709551616
  w64 : wd ≤ 64
  jj : ∀ j ∈ js, j ≤ 65536 ∧ okv_S codec wd list ends lanes j
  two : codec = 2 → ∀ j ∈ js, j ≤ 65536 ∧ L.laneOf wd lanes j < list.length ∧ (0 < wd → j / (64 / wd) < lanes.length)
  three : codec = 3 → (∀ a b, a < b → b < (nI ends).length → (nI ends).getD a 0 < (nI ends).getD b 0) ∧ ends.length = list.length ∧ ∀ j ∈ js, j ≤ 65536 ∧ firstGe (nI ends) ((j : Int) + 1) < ends.length
theorem Tally_S (w : World) (g : Nat) (A : Option Addr) (n c : Nat) : Calls Tryz.prog 69 #[.pointer (some ⟨g, 0, none⟩), .slice A n c] w fun e w' =>
    e = .returned (.func (.func 118) #[] #[.pointer (some ⟨w.heap.size, 0, none⟩), .pointer (some ⟨w.heap.size + 1, 0, none⟩)]) ∧ w' = (w.alloc (.cells #[.pointer (some ⟨g, 0, none⟩)] 104)).alloc (.cells #[.slice A n c] 28) := by
  go_enter Tryz.func69, Tryz.ntmps69
  go_wp2_with fail
  go_ret
  exact ⟨rfl, rfl⟩
set_option maxHeartbeats 8000000 in
theorem tally_gives_S (wc : World) (g rows codec wd : Nat) (nulls : List Nat) (count : Int) (list : List ByteArray) (ends : List Nat) (base : Int) (lanes : List Nat) (hk : Ck_S wc g rows codec wd nulls count list ends base lanes) (hbm : nulls.length = (rows + 63) / 64) (hnv : ∀ x ∈ nulls, x < 18446744073709551616) (hrr : rows ≤ 65536)
    (sv : Value) (sel : List Nat) (hs : Rd wc sv sel.length 1 (u64s sel)) (hsv : ∀ x ∈ sel, x < 18446744073709551616) (hsl : sel.length = (rows + 63) / 64) (hsr : ∀ r, bitOf sel r = true → r < rows) (hT : Tab wc)
    (hd : TlD_S codec wd list ends lanes (chosenN sel nulls (64 * sel.length)))
    (w0 : World) (hw : Below wc.heap.size wc w0) (U : Nat → Prop) (hU : ∀ k, k < wc.heap.size → U k) (hU0 : ∀ k, U k → k < w0.heap.size) (sb cb : Nat) (hsb : sb < w0.heap.size) (hcb : cb < w0.heap.size) (hUs : U sb) (hUc : U cb) (hcs : w0.cell? ⟨sb, 0, none⟩ = some sv) (hcc : w0.cell? ⟨cb, 0, none⟩ = some (.pointer (some ⟨g, 0, none⟩))) :
    Gives Tryz.prog 118 #[.pointer (some ⟨cb, 0, none⟩), .pointer (some ⟨sb, 0, none⟩)] (fun p : ByteArray × Nat => #[vS p.1, .int .i64 (p.2 : Nat)]) U (tallyP_S codec wd list ends base lanes (chosenN sel nulls (64 * sel.length))) w0 := by
  intro l J W hW hJ hY h0
  obtain ⟨s, hsz⟩ : ∃ s, W.heap.size = s := ⟨_, rfl⟩
  have hws : w0.heap.size ≤ s := by rw [← hsz]; exact hW.size
  have hcw : wc.heap.size ≤ w0.heap.size := hw.size
  have hbW : Below wc.heap.size wc W := hw.trans (hW.mono hw.size)
  -- what is known of a world between two rounds
  have HCH := hid (fun (w1 : World) (hm : Mid U W.heap.size W w1) => (show Below wc.heap.size wc w1 from hbW.trans (hm.below (by omega) hU)))
  have HCB := hid (fun (w1 : World) (hm : Mid U W.heap.size W w1) => (show w1.cell? ⟨cb, 0, none⟩ = some (.pointer (some ⟨g, 0, none⟩)) from by
    rw [cell_at (hm.keep cb (Nat.lt_of_lt_of_le hcb hW.size) (.inl hUc)), cell_at (hW.block cb hcb)]; exact hcc))
  have HSB := hid (fun (w1 : World) (hm : Mid U W.heap.size W w1) => (show w1.cell? ⟨sb, 0, none⟩ = some sv from by
    rw [cell_at (hm.keep sb (Nat.lt_of_lt_of_le hsb hW.size) (.inl hUs)), cell_at (hW.block sb hsb)]; exact hcs))
  obtain ⟨As, ns, cs, hsve⟩ : ∃ As ns cs, sv = .slice As ns cs := by obtain ⟨A, c, h, _⟩ := hs.form; exact ⟨A, _, c, h⟩
  obtain ⟨nu, lv, ev, nv, bef, q1, q2, q3, q4, q5, q6⟩ := hk.ex
  have HRW := hid (fun (w1 : World) (hb : Below wc.heap.size wc w1) => q1.mono hb)
  have HLV := hid (fun (w1 : World) (hb : Below wc.heap.size wc w1) => q3.mono hb)
  have HTC := hid (fun (h2 : codec = 2) (w1 : World) (hb : Below wc.heap.size wc w1) => tallyCodes_S w1 g rows codec wd nulls count list ends base lanes (hk.mono hb) hbm hnv hrr sv sel (hs.mono hb) hsv hsl hsr (hT.mono hb hT.lt) hd.ll hd.lv hd.w64 (hd.two h2))
  have HTR := hid (fun (h3 : codec = 3) (w1 : World) (hb : Below wc.heap.size wc w1) => tallyRuns_S w1 g rows codec wd nulls count list ends base lanes (hk.mono hb) hbm hnv hrr sv sel (hs.mono hb) hsv hsl hsr (hT.mono hb hT.lt) hd.ll (hd.three h3).1 (hd.three h3).2.1 (hd.three h3).2.2)
  have hjl : (chosenN sel nulls (64 * sel.length)).length ≤ 70000 := by have := chosenN_len sel nulls (64 * sel.length); omega
  have hcnt : ∀ f k, (cntsL f (chosenN sel nulls (64 * sel.length)) list.length).getD k 0 ≤ 1048576 := fun f k => by
    by_cases hk2 : k < list.length
    · rw [cntsL_get _ _ _ _ hk2]; have := cntOfF_le f (chosenN sel nulls (64 * sel.length)) k; omega
    · simp [List.getD, List.getElem?_eq_none (show (cntsL f (chosenN sel nulls (64 * sel.length)) list.length).length ≤ k by rw [cntsL_len]; omega)]
  have HVL := hid (fun (w1 : World) (hb : Below wc.heap.size wc w1) (j : Nat) (hj : j ∈ chosenN sel nulls (64 * sel.length)) => ValueAll_S w1 g rows codec wd nulls count list ends base lanes j (hk.mono hb) hd.el hd.ll hd.lv (hd.jj j hj).1 (hd.jj j hj).2)
  have HCG := hid (fun (w1 : World) (hb : Below wc.heap.size wc w1) (V : Nat → Prop) (hV : ∀ k, k < wc.heap.size → V k) (sb1 cb1 : Nat) (h1 : sb1 < w1.heap.size) (h2 : cb1 < w1.heap.size) (h3 : V sb1) (h4 : V cb1) (h5 : w1.cell? ⟨sb1, 0, none⟩ = some sv) (h6 : w1.cell? ⟨cb1, 0, none⟩ = some (.pointer (some ⟨g, 0, none⟩))) =>
    chosen_gives_S wc g rows codec wd nulls count list ends base lanes hk hbm hnv hrr sv sel hs hsv hsl hsr hT w1 hb V hV sb1 cb1 h1 h2 h3 h4 h5 h6)
  have hll := hd.ll
  clear hk hbm hnv hs hsv hsl hsr hT hd q1 q2 q3 q4 q5 q6 hcs hcc
  generalize chosenN sel nulls (64 * sel.length) = js at *
  subst hsve
  obtain ⟨Al, cl, hlv⟩ : ∃ Al cl, lv = .slice Al list.length cl := by obtain ⟨A, c, h, _⟩ := (HLV.out wc (brefl wc)).form; exact ⟨A, c, h⟩
  subst hlv
  have HC1 : Hid (∀ w1 : World, Below wc.heap.size wc w1 → w1.cell? ⟨g, 1, none⟩ = some (.int .i64 (codec : Nat))) := hid (fun w1 hb => by rw [(HRW.out w1 hb).cell]; rfl)
  have HC5 : Hid (∀ w1 : World, Below wc.heap.size wc w1 → w1.cell? ⟨g, 5, none⟩ = some (.slice Al list.length cl)) := hid (fun w1 hb => by rw [(HRW.out w1 hb).cell]; rfl)
  have hrow : Row (W.alloc (.cells #[.func (.yield l) #[] #[]] 171)) s 171 [.func (.yield l) #[] #[]] := by rw [← hsz]; unfold Row; rw [heap_alloc_new]
  have hm1 : Mid U W.heap.size W (W.alloc (.cells #[.func (.yield l) #[] #[]] 171)) := Mid.of_below ((brefl W).alloc (Nat.le_refl _) _)
  have hz1 : (W.alloc (.cells #[.func (.yield l) #[] #[]] 171)).heap.size = s + 1 := by simp [hsz]
  have HJ1 := hid (hJ _ _ _ h0 ((brefl W).alloc (Nat.le_refl _) (.cells #[.func (.yield l) #[] #[]] 171)))
  have HROW := hid hrow; have HM1 := hid hm1; have HZ1 := hid hz1
  have HY := hid hY; have HJ := hid hJ
  clear hrow hm1 hz1 hY hJ h0
  refine (callsIn_wide (n := 9)).1 ?_
  refine callsIn_of_wp_marks Tryz.func118 rfl trivial ?_ rfl
  simp only [Tryz.ntmps118, List.size_toArray, List.length_cons, List.length_nil, Nat.reduceAdd, Nat.reduceSub, Array.replicate_succ, Array.replicate_zero, List.push_toArray, List.append_toArray, List.nil_append, List.cons_append]
  refine wpIn_wide.2 ?_
  go_upto_region 1 with fail
  generalize W.alloc (.cells #[.func (.yield l) #[] #[]] 171) = W1 at *
  have hb1 := HCH.out W1 HM1.out
  have k0 := HCB.out W1 HM1.out
  have k1 := HSB.out W1 HM1.out
  have k2 := HC1.out W1 hb1
  have k3 := HC5.out W1 hb1
  have k4 := HROW.out.cell 0
  simp only [List.getElem?_cons_zero] at k4
  have hmx : Tryz.prog.follows .mixedOrders = true := by kernel_rfl
  have HSZ1 := hid (show ∀ (w2 : World), Below W1.heap.size W1 w2 → Mid U W.heap.size W w2 from fun w2 hb => HM1.out.trans (Mid.of_below hb))
  have HJS := hid (show ∀ (w2 : World), Below W1.heap.size W1 w2 → J [] w2 from fun w2 hb => HJ.out _ _ _ HJ1.out (hb.mono (by rw [HZ1.out, hsz]; omega)))
  -- showTally, whatever was counted
  have HST := hid (fun (w2 : World) (hb : Below W1.heap.size W1 w2) (f : Nat → Nat) (gc : Nat) (hg : W.heap.size ≤ gc) (hr : Row w2 gc 3 (ints (cntsL f js list.length))) =>
    showTally_S U W.heap.size l J list (cntsL f js list.length) (.slice Al list.length cl) (.slice (some ⟨gc, 0, none⟩) list.length list.length) list.length w2 (cntsL_len _ _ _) hll (Nat.le_refl _) (fun k _ => hcnt f k)
      (fun w9 h9 => HLV.out w9 (HCH.out w9 ((HSZ1.out w2 hb).trans h9))) (fun w9 h9 => h9.rd hr hg (by simp [ints, cntsL]) (by unfold maxLen; omega)))
  by_cases h2 : codec = 2
  · have hty : tallyP_S codec wd list ends base lanes js = shL dfS list (cntsL (L.laneOf wd lanes) js list.length) list.length := by unfold tallyP_S; rw [if_pos h2]
    rw [hty] at HY
    have HTY := hid hty
    have HTC2 := hid (HTC.out h2)
    have HYS := hid (fun (w2 : World) (hb : Below W1.heap.size W1 w2) (pre : List (ByteArray × Nat)) (x : ByteArray × Nat) (w9 : World) (hp : pre ++ [x] <+: shL dfS list (cntsL (L.laneOf wd lanes) js list.length) list.length) (hj : J pre w9) (h9 : Mid U W.heap.size w2 w9) => HY.out pre x w9 hp hj ((HSZ1.out w2 hb).trans h9).low.size ((HSZ1.out w2 hb).trans h9))
    subst h2
    clear hty HTC HTR HVL HCG hcnt
    go_upto_region 6 with fail
    go_region_held3 (fun w' => w'.cell? ⟨cb, 0, none⟩ = some (.pointer (some ⟨g, 0, none⟩)) ∧ w'.cell? ⟨sb, 0, none⟩ = some (.slice As ns cs) ∧ w'.cell? ⟨s, 0, none⟩ = some (.func (.yield l) #[] #[]) ∧ w'.cell? ⟨g, 5, none⟩ = some (.slice Al list.length cl)) (first | go_keep)
      (first
        | (go_at_call 120; refine (HTC2.out _ (Go.below_drewN hb1 1)).mono ?_; rintro e w2 ⟨gc, rfl, hg2, hr2, hb2⟩; have HB2 : Hid (Below W1.heap.size W1 w2) := hid (bthen (bdrew (brefl W1) 1) hb2); have HR2 := hid hr2; have hgc : W.heap.size ≤ gc := (by have h9 := HZ1.out; have hg3 : W1.heap.size ≤ gc := hg2; omega); have HM2 := hid (HSZ1.out w2 HB2.out); have HRY2 := hid (HROW.out.mono HB2.out); have n0 := HCB.out w2 HM2.out; have n1 := HSB.out w2 HM2.out; have n2 := HRY2.out.cell 0; have n3 := HC5.out w2 (HCH.out w2 HM2.out); simp only [List.getElem?_cons_zero] at n2)
        | (go_at_call 119; refine (HST.out w2 HB2.out _ gc hgc HR2.out (HYS.out w2 HB2.out) (HJS.out w2 HB2.out)).mono ?_; rintro e w3 ⟨⟨v3, rfl⟩, hj3, hm3⟩; have HJ3 := hid hj3; have HM3 := hid (HM2.out.trans hm3); have HRY3 := hid (hm3.row HRY2.out (.inr (by omega))); have y0 := HCB.out w3 HM3.out; have y1 := HSB.out w3 HM3.out; have y2 := HRY3.out.cell 0; have y3 := HC5.out w3 (HCH.out w3 HM3.out); simp only [List.getElem?_cons_zero] at y2; clear hj3 hm3))
    all_goals (try simp only [Exit.inBlock, Exit.then])
    all_goals exact ⟨_, results_none rfl _ _ _, ⟨_, rfl⟩, by rw [HTY.out]; exact HJ3.out, HM3.out⟩
  by_cases h3 : codec = 3
  · have hty : tallyP_S codec wd list ends base lanes js = shL dfS list (cntsL (runOf ends) js list.length) list.length := by unfold tallyP_S; rw [if_neg h2, if_pos h3]
    rw [hty] at HY
    have HTY := hid hty
    have HTC2 := hid (HTR.out h3)
    have HYS := hid (fun (w2 : World) (hb : Below W1.heap.size W1 w2) (pre : List (ByteArray × Nat)) (x : ByteArray × Nat) (w9 : World) (hp : pre ++ [x] <+: shL dfS list (cntsL (runOf ends) js list.length) list.length) (hj : J pre w9) (h9 : Mid U W.heap.size w2 w9) => HY.out pre x w9 hp hj ((HSZ1.out w2 hb).trans h9).low.size ((HSZ1.out w2 hb).trans h9))
    subst h3
    clear h2
    clear hty HTC HTR HVL HCG hcnt
    go_upto_region 8 with fail
    go_region_held3 (fun w' => w'.cell? ⟨cb, 0, none⟩ = some (.pointer (some ⟨g, 0, none⟩)) ∧ w'.cell? ⟨sb, 0, none⟩ = some (.slice As ns cs) ∧ w'.cell? ⟨s, 0, none⟩ = some (.func (.yield l) #[] #[]) ∧ w'.cell? ⟨g, 5, none⟩ = some (.slice Al list.length cl)) (first | go_keep)
      (first
        | (go_at_call 121; refine (HTC2.out _ (Go.below_drewN hb1 1)).mono ?_; rintro e w2 ⟨gc, rfl, hg2, hr2, hb2⟩; have HB2 : Hid (Below W1.heap.size W1 w2) := hid (bthen (bdrew (brefl W1) 1) hb2); have HR2 := hid hr2; have hgc : W.heap.size ≤ gc := (by have h9 := HZ1.out; have hg3 : W1.heap.size ≤ gc := hg2; omega); have HM2 := hid (HSZ1.out w2 HB2.out); have HRY2 := hid (HROW.out.mono HB2.out); have n0 := HCB.out w2 HM2.out; have n1 := HSB.out w2 HM2.out; have n2 := HRY2.out.cell 0; have n3 := HC5.out w2 (HCH.out w2 HM2.out); simp only [List.getElem?_cons_zero] at n2)
        | (go_at_call 119; refine (HST.out w2 HB2.out _ gc hgc HR2.out (HYS.out w2 HB2.out) (HJS.out w2 HB2.out)).mono ?_; rintro e w3 ⟨⟨v3, rfl⟩, hj3, hm3⟩; have HJ3 := hid hj3; have HM3 := hid (HM2.out.trans hm3); have HRY3 := hid (hm3.row HRY2.out (.inr (by omega))); have y0 := HCB.out w3 HM3.out; have y1 := HSB.out w3 HM3.out; have y2 := HRY3.out.cell 0; have y3 := HC5.out w3 (HCH.out w3 HM3.out); simp only [List.getElem?_cons_zero] at y2; clear hj3 hm3))
    all_goals (try simp only [Exit.inBlock, Exit.then])
    all_goals exact ⟨_, results_none rfl _ _ _, ⟨_, rfl⟩, by rw [HTY.out]; exact HJ3.out, HM3.out⟩
  have hty : tallyP_S codec wd list ends base lanes js = js.map fun j => (vl_S codec wd list ends base lanes j, 1) := by unfold tallyP_S; rw [if_neg h2, if_neg h3]
  rw [hty] at HY
  have HTY := hid hty
  have e2 : ((codec : Int) == 2) = false := by simp; omega
  have e3 : ((codec : Int) == 3) = false := by simp; omega
  clear hty HTC HTR hcnt HST k3
  have HCO := hid (chosen_S W1 g As ns cs)
  have HA4 := hid ((((brefl W1).alloc (Nat.le_refl _) (.cells #[.pointer (some ⟨g, 0, none⟩)] 104))).alloc (by simp) (.cells #[.slice As ns cs] 28))
  have HZ4 : Hid (((W1.alloc (.cells #[.pointer (some ⟨g, 0, none⟩)] 104)).alloc (.cells #[.slice As ns cs] 28)).heap.size = s + 3) := hid (by have := HZ1.out; simp; omega)
  have HP4 : Hid (((W1.alloc (.cells #[.pointer (some ⟨g, 0, none⟩)] 104)).alloc (.cells #[.slice As ns cs] 28)).cell? ⟨s + 1, 0, none⟩ = some (.pointer (some ⟨g, 0, none⟩))) := hid (by rw [← HZ1.out]; simp)
  have HQ4 : Hid (((W1.alloc (.cells #[.pointer (some ⟨g, 0, none⟩)] 104)).alloc (.cells #[.slice As ns cs] 28)).cell? ⟨s + 1 + 1, 0, none⟩ = some (.slice As ns cs)) := hid (by rw [← HZ1.out]; simp)
  rw [HZ1.out] at HCO
  go_wp2_with (go_at_call 122; refine HCO.out.mono ?_; rintro e w4 ⟨rfl, hw4⟩; rw [← hw4] at HA4 HZ4 HP4 HQ4; clear hw4)
  have hz4 := HZ4.out
  have HR4 := hid (HROW.out.mono HA4.out)
  have HM4 := hid (HSZ1.out w4 HA4.out)
  have HJ4 := hid (HJS.out w4 HA4.out)
  refine wpIn_wide.1 (range_all (n := 9) rfl (gf := 166) (lb := #[.pointer (some ⟨s + 1 + 1, 0, none⟩), .pointer (some ⟨s + 1, 0, none⟩)]) rfl (enters_of Tryz.func166 (by kernel_rfl) rfl)
    (HCG.out w4 (HCH.out w4 HM4.out) (fun k => U k ∨ k = s + 1 ∨ k = s + 2) (fun k hk => .inl (hU k hk)) _ _ (by omega) (by omega) (.inr (.inr rfl)) (.inr (.inl rfl)) HQ4.out HP4.out) (brefl w4) (fun k hk => by rcases hk with hk | hk; (have := hU0 k hk; omega); omega) (fun _ => rfl)
    (fun pre W' => J (pre.map fun j => (vl_S codec wd list ends base lanes j, 1)) W' ∧ Row W' s 171 [.func (.yield l) #[] #[]] ∧ Mid U W.heap.size W W')
    (fun pre A B h hb => ⟨HJ.out _ _ _ h.1 (hb.mono (by omega)), h.2.1.below hb (by omega), ⟨h.2.2.low.trans (hb.mono (Nat.zero_le _)), fun k hk hk2 => (hb.block k (by omega)).trans (h.2.2.keep k hk hk2)⟩⟩)
    ⟨HJ4.out, HR4.out, HM4.out⟩
    (fun x => { tmps := #[.func (.yield l) #[] #[], .pointer (some ⟨cb, 0, none⟩), .pointer (some ⟨sb, 0, none⟩), .pointer (some ⟨s, 0, none⟩), .int .i64 (x : Int), .pointer (some ⟨g, 0, none⟩), .pointer (some ⟨g, 0, none⟩), .pointer (some ⟨g, 1, none⟩), .int .i64 (codec : Int), .pointer (some ⟨g, 0, none⟩), .slice As ns cs, .func (.func 166) #[] #[.pointer (some ⟨s + 1 + 1, 0, none⟩), .pointer (some ⟨s + 1, 0, none⟩)], .int .i64 (x : Int), undef, undef, undef, undef, undef, undef, .bool false, .bool false, undef, undef, undef, undef, undef, undef, undef, undef, undef, .bool false, .bool false, undef, undef, undef, undef, undef, undef, undef, undef, undef], defers := [] }) ?assign ?body ?done)
  case assign =>
    intro l x W K hK
    gi_wp2
    exact hK
  case body =>
    rintro l2 pre x W' hpre ⟨r1, r2, r3⟩ hsW hmW
    have HCW := hid (HCH.out W' r3)
    have y1 := HCB.out W' r3
    have y2 := r2.cell 0
    simp only [List.getElem?_cons_zero] at y2
    have HR1 := hid r1; have HR2 := hid r2; have HR3 := hid r3
    have HVX := hid (fun (w9 : World) (hb : Below wc.heap.size wc w9) => HVL.out w9 hb x (mem_prefix hpre).1)
    have hpm : (pre.map fun j => (vl_S codec wd list ends base lanes j, 1)) ++ [(vl_S codec wd list ends base lanes x, 1)] <+: js.map fun j => (vl_S codec wd list ends base lanes j, 1) := by
      have := hpre.map fun j => (vl_S codec wd list ends base lanes j, 1)
      simpa using this
    have HYX : Hid (∀ w9 : World, Below W'.heap.size W' w9 → YieldAt Fence.wide 8 Tryz.prog l #[vS (vl_S codec wd list ends base lanes x), .int .i64 1] w9 fun e W9 => e = .returned (.bool true) ∧ J ((pre.map fun j => (vl_S codec wd list ends base lanes j, 1)) ++ [(vl_S codec wd list ends base lanes x, 1)]) W9 ∧ Mid U W.heap.size w9 W9) := hid (fun (w9 : World) (hb : Below W'.heap.size W' w9) => yield_any (m' := 8) (HY.out _ (vl_S codec wd list ends base lanes x, 1) w9 hpm (HJ.out _ _ _ HR1.out (hb.mono HR3.out.low.size)) (Nat.le_trans HR3.out.low.size hb.size) (HR3.out.trans (Mid.of_below hb))))
    have HMA : Hid ((pre ++ [x]).map (fun j => (vl_S codec wd list ends base lanes j, 1)) = (pre.map fun j => (vl_S codec wd list ends base lanes j, 1)) ++ [(vl_S codec wd list ends base lanes x, 1)]) := hid (by simp)
    obtain ⟨vx, hvx⟩ : ∃ vx, vl_S codec wd list ends base lanes x = vx := ⟨_, rfl⟩
    rw [hvx] at HVX HYX
    have HVV := hid hvx
    clear r1 r2 r3 hpm hvx
    unfold vS at HVX HYX
    gi_wp2
    gi_region_with_o (first
      | (refine ⟨trivial, ?_⟩; gi_at_call 123; refine (CallsIn.inRound l2 (callsIn_wide.2 (HVX.out _ (Go.below_drewN HCW.out 1)))).mono ?_; rintro e w5 ⟨rfl, hb5⟩; have HB5 : Hid (Below W'.heap.size W' w5) := hid (bthen (bdrew (brefl W') 1) hb5); obtain ⟨fn, tmps, assign, body, hy, hR⟩ := HYX.out w5 HB5.out; have hR2 := round_inRound l2 hR; have HRY5 := hid (HR2.out.mono HB5.out); have n2 := HRY5.out.cell 0; simp only [List.getElem?_cons_zero] at n2; clear hb5)
      | (refine hR2.mono ?_; rintro e w6 ⟨rfl, hj6, hm6⟩; have HJ6 := hid hj6; have HM6 := hid hm6; clear hj6 hm6))
    all_goals gi_wp2
    all_goals refine ⟨⟨by rw [HVV.out]; exact HJ6.out, ?_, ?_⟩, ?_⟩
    all_goals first
      | exact HM6.out.row HRY5.out (.inr (by rw [hsz]; exact Nat.le_refl _))
      | (have h9 := (HR3.out.trans (Mid.of_below HB5.out)).trans HM6.out
         rw [hsz] at h9
         exact h9)
      | (have h9 := (Mid.of_below (U := fun k => U k ∨ k = s + 1 ∨ k = s + 2) (b := w4.heap.size) HB5.out).trans (HM6.out.sub (V := fun k => U k ∨ k = s + 1 ∨ k = s + 2) (b' := w4.heap.size) (fun k hk => by
           rcases hk with hk | hk | hk
           · exact .inl hk
           · right; omega
           · right; omega) (by omega))
         rw [hz4] at h9
         exact h9)
  case done =>
    rintro W' ⟨r1, r2, r3⟩ hmW hK
    have HR1 := hid r1; have HR3 := hid r3; have HKK := hid hK
    go_wp2_with fail
    refine ⟨by simp, .inl ⟨_, _, rfl, run_takeDeferred HKK.out, ?_⟩⟩
    refine ⟨_, results_none rfl _ _ _, ⟨_, rfl⟩, by rw [HTY.out]; exact HJ.out _ _ _ HR1.out ((put_below HKK.out (Nat.le_refl _)).mono (by omega)), ?_⟩
    exact ⟨HR3.out.low.trans (put_below HKK.out (Nat.zero_le _)), fun k hk hk2 => (World.putObj_heap_other (by omega)).trans (HR3.out.keep k hk hk2)⟩
end Go.Proofs.YthonbfojpbfmgaaGreatDoor

/- Package kernel: fold of one kind (strings). -/
set_option linter.unusedVariables false
set_option linter.unusedSimpArgs false
set_option linter.unnecessarySimpa false
set_option maxRecDepth 100000
namespace Go.Proofs.YthonbfojpbfmgaaGreatDoor
open Go.RowKit Go.Shelf
attribute [local go_sem] Oper.semAt_some

/-- a value as a cell -/
def vC_S (x : ByteArray) : C3 := ⟨false, 0, x⟩
/-- a tally's pair, its value as a cell -/
def eP_S (p : ByteArray × Nat) : C3 × Nat := (vC_S p.1, p.2)
/-- what a body tells in the rows that are chosen -/
def foldP_S (rows : Nat) (xs sel : List Nat) : P9 := foldT ((tallyP_S (headOf rows xs).codec (headOf rows xs).wd (lkOut_S rows xs).list (lkOut_S rows xs).ends (lkBase_S rows xs) (lkOut_S rows xs).lanes (chosenN sel (headOf rows xs).nulls (64 * sel.length))).map eP_S)
/-- what must be known of a body, for a fold -/
structure FoD_S (rows : Nat) (xs sel : List Nat) : Prop where
  tl : TlD_S (headOf rows xs).codec (headOf rows xs).wd (lkOut_S rows xs).list (lkOut_S rows xs).ends (lkOut_S rows xs).lanes (chosenN sel (headOf rows xs).nulls (64 * sel.length))
  nl : (headOf rows xs).nulls.length = (rows + 63) / 64
  nv : ∀ x ∈ (headOf rows xs).nulls, x < 18446744073709551616
  pr : ∀ p ∈ tallyP_S (headOf rows xs).codec (headOf rows xs).wd (lkOut_S rows xs).list (lkOut_S rows xs).ends (lkBase_S rows xs) (lkOut_S rows xs).lanes (chosenN sel (headOf rows xs).nulls (64 * sel.length)), (-9223372036854775808 ≤ (eP_S p).1.i ∧ (eP_S p).1.i ≤ 9223372036854775807) ∧ p.2 ≤ 1048576
set_option maxHeartbeats 8000000 in
theorem fold_S (w : World) (v sv : Value) (xs sel : List Nat) (rows : Nat) (hT : Tab w) (hv : Rd w v xs.length 1 (u8s xs)) (hb : ∀ x ∈ xs, x < 256) (hl : xs.length ≤ 16777216) (hrr : rows ≤ 65536)
    (hs : Rd w sv sel.length 1 (u64s sel)) (hsv : ∀ x ∈ sel, x < 18446744073709551616) (hsl : sel.length = (rows + 63) / 64) (hsr : ∀ r, bitOf sel r = true → r < rows) (hval : lkOk_S rows xs = true → FoD_S rows xs sel) :
    Calls Tryz.prog 37 #[.iface 66 (.agg #[]), .int .i64 rows, v, sv] w fun e w' =>
      Below w.heap.size w w' ∧ ((lkOk_S rows xs = false ∧ e = .returned (.tuple #[nilP.v, .int .i64 1])) ∨ (lkOk_S rows xs = true ∧ e = .returned (.tuple #[(foldP_S rows xs sel).v, .int .i64 0]))) := by
  obtain ⟨s, hsz⟩ : ∃ s, w.heap.size = s := ⟨_, rfl⟩
  have HLK := hid (fun (w2 : World) (h : Below w.heap.size w w2) => Look_S w2 v xs rows (hT.mono h hT.lt) (hv.mono h) hb hl hrr)
  have HGV := hid (fun (h0 : lkOk_S rows xs = true) (wc : World) (hbc : Below w.heap.size w wc) (g : Nat) (hk : Ck_S wc g rows (headOf rows xs).codec (headOf rows xs).wd (headOf rows xs).nulls (cntOf rows (headOf rows xs).nulls) (lkOut_S rows xs).list (lkOut_S rows xs).ends (lkBase_S rows xs) (lkOut_S rows xs).lanes) =>
    tally_gives_S wc g rows (headOf rows xs).codec (headOf rows xs).wd (headOf rows xs).nulls (cntOf rows (headOf rows xs).nulls) (lkOut_S rows xs).list (lkOut_S rows xs).ends (lkBase_S rows xs) (lkOut_S rows xs).lanes hk (hval h0).nl (hval h0).nv hrr sv sel (hs.mono hbc) hsv hsl hsr (hT.mono hbc hT.lt) (hval h0).tl)
  have HPR := hid (fun (h0 : lkOk_S rows xs = true) => (hval h0).pr)
  obtain ⟨A0, c0, rfl, _, _, _⟩ := hv.form
  obtain ⟨As, cs, rfl, _, _, _⟩ := hs.form
  clear hT hv hs hval hsv hsl hsr hb
  have HFP : Hid (foldP_S rows xs sel = foldT ((tallyP_S (headOf rows xs).codec (headOf rows xs).wd (lkOut_S rows xs).list (lkOut_S rows xs).ends (lkBase_S rows xs) (lkOut_S rows xs).lanes (chosenN sel (headOf rows xs).nulls (64 * sel.length))).map eP_S)) := hid rfl
  generalize foldP_S rows xs sel = fp at *
  generalize sel.length = sn at *
  have HB0 := hid (((brefl w).alloc (Nat.le_refl _) (.cells #[.iface 66 (.agg #[])] 91)).alloc (by simp) (.cells #[.int .i64 0, .int .i64 0, .int .u64 0, .bool false, .int .i64 0, .string ⟨#[]⟩, .bool false, .int .i64 0, .string ⟨#[]⟩] 44))
  have HRK : Hid (Row ((w.alloc (.cells #[.iface 66 (.agg #[])] 91)).alloc (.cells #[.int .i64 0, .int .i64 0, .int .u64 0, .bool false, .int .i64 0, .string ⟨#[]⟩, .bool false, .int .i64 0, .string ⟨#[]⟩] 44)) s 91 [.iface 66 (.agg #[])]) := hid (by
    have h1 : Row (w.alloc (.cells #[.iface 66 (.agg #[])] 91)) s 91 [.iface 66 (.agg #[])] := by rw [← hsz]; unfold Row; rw [heap_alloc_new]
    exact h1.mono ((brefl _).alloc (Nat.le_refl _) _))
  have HRP : Hid (Row ((w.alloc (.cells #[.iface 66 (.agg #[])] 91)).alloc (.cells #[.int .i64 0, .int .i64 0, .int .u64 0, .bool false, .int .i64 0, .string ⟨#[]⟩, .bool false, .int .i64 0, .string ⟨#[]⟩] 44)) (s + 1) 44 [.int .i64 0, .int .i64 0, .int .u64 0, .bool false, .int .i64 0, .string ⟨#[]⟩, .bool false, .int .i64 0, .string ⟨#[]⟩]) := hid (by
    have e : s + 1 = (w.alloc (.cells #[.iface 66 (.agg #[])] 91)).heap.size := by simp [hsz]
    rw [e]; unfold Row; rw [heap_alloc_new])
  have HSZ : Hid (((w.alloc (.cells #[.iface 66 (.agg #[])] 91)).alloc (.cells #[.int .i64 0, .int .i64 0, .int .u64 0, .bool false, .int .i64 0, .string ⟨#[]⟩, .bool false, .int .i64 0, .string ⟨#[]⟩] 44)).heap.size = s + 2) := hid (by simp [hsz])
  have hcm := m_Cell_S
  refine (callsIn_wide (n := 9)).1 ?_
  refine callsIn_of_wp_marks Tryz.func37 rfl trivial ?_ rfl
  simp only [Tryz.ntmps37, List.size_toArray, List.length_cons, List.length_nil, Nat.reduceAdd, Nat.reduceSub, Array.replicate_succ, Array.replicate_zero, List.push_toArray, List.append_toArray, List.nil_append, List.cons_append]
  refine wpIn_wide.2 ?_
  go_upto_region 1 with fail
  generalize (w.alloc (.cells #[.iface 66 (.agg #[])] 91)).alloc (.cells #[.int .i64 0, .int .i64 0, .int .u64 0, .bool false, .int .i64 0, .string ⟨#[]⟩, .bool false, .int .i64 0, .string ⟨#[]⟩] 44) = w0 at *
  have k0 := HRK.out.cell 0
  simp only [List.getElem?_cons_zero] at k0
  go_wp2_with fail
  refine (HLK.out w0 HB0.out).mono ?_
  rintro e w1 ⟨hb1, ⟨h0, rfl⟩ | ⟨h0, nu, lv, ev, nv, bef, rfl, h1, h2, h3, h4, h5⟩⟩
  · have H0 := hid h0
    clear h0
    have HB1 := hid hb1
    have HB2 := hid (hb1.alloc hb1.size (.cells zeroCk_S.toArray 94))
    unfold zeroCk_S i64 nilS at HB2 ⊢
    have HRP2 := hid (HRP.out.mono HB2.out)
    obtain ⟨z0, z1, z2, z3, z4, z5, z6, z7, z8⟩ := row9 HRP2.out
    obtain ⟨f0, f1, f2, f3, f4, f5, f6, f7, f8⟩ := frz9 HRP2.out
    clear hb1 HLK HGV HPR hcm k0
    go_wp2_with fail
    have HBF := hid (set9_below (HB0.out.trans (HB2.out.mono HB0.out.size)) (s + 1) (by omega) (.int .i64 0) (.int .i64 0) (.int .u64 0) (.bool false) (.int .i64 0) (.string ⟨#[]⟩) (.bool false) (.int .i64 0) (.string ⟨#[]⟩))
    have HRF := hid (set9_row HRP2.out (.int .i64 0) (.int .i64 0) (.int .u64 0) (.bool false) (.int .i64 0) (.string ⟨#[]⟩) (.bool false) (.int .i64 0) (.string ⟨#[]⟩))
    obtain ⟨y0, y1, y2, y3, y4, y5, y6, y7, y8⟩ := row9 HRF.out
    unfold set9 at HBF y0 y1 y2 y3 y4 y5 y6 y7 y8
    refine ⟨.tuple #[.agg #[.int .i64 0, .int .i64 0, .int .u64 0, .bool false, .int .i64 0, .string ⟨#[]⟩, .bool false, .int .i64 0, .string ⟨#[]⟩], .int .i64 1], ?_, HBF.out, .inl ⟨H0.out, rfl⟩⟩
    clear HBF HRF HRP2 HB2 z0 z1 z2 z3 z4 z5 z6 z7 z8 f0 f1 f2 f3 f4 f5 f6 f7 f8
    simp [results, Tryz.results37, go_sem, y0, y1, y2, y3, y4, y5, y6, y7, y8]
  · have H0 := hid h0
    clear h0
    obtain ⟨g, hg⟩ : ∃ g, w1.heap.size = g := ⟨_, rfl⟩
    have hsz1 : s + 2 ≤ g := by have h9 : w0.heap.size ≤ w1.heap.size := hb1.size; have := HSZ.out; omega
    have HCK := hid (@ck_laid_S w1 rows xs nu lv ev nv bef (owns_rd h1) h2 h3 h4 h5)
    obtain ⟨A2, c2, rfl, _, _, _⟩ := (owns_rd h1).form
    obtain ⟨A3, c3, rfl, _, _, _⟩ := h2.form
    obtain ⟨A4, c4, rfl, _, _, _⟩ := h3.form
    obtain ⟨A5, c5, rfl, _, _, _⟩ := h4.form
    obtain ⟨A6, c6, rfl, _, _, _⟩ := h5.form
    have HB2 : Hid (Below w0.heap.size w0 (w1.alloc (.cells (ck_S rows (headOf rows xs).codec (headOf rows xs).wd (.slice A2 (headOf rows xs).nulls.length c2) (cntOf rows (headOf rows xs).nulls) (.slice A3 (lkOut_S rows xs).list.length c3) (.slice A4 (lkOut_S rows xs).ends.length c4) (lkBase_S rows xs) (.slice A5 (lkOut_S rows xs).lanes.length c5) kind_S (.slice A6 (headOf rows xs).nulls.length c6)).toArray 94))) := hid (hb1.alloc hb1.size _)
    have HZ2 : Hid ((w1.alloc (.cells (ck_S rows (headOf rows xs).codec (headOf rows xs).wd (.slice A2 (headOf rows xs).nulls.length c2) (cntOf rows (headOf rows xs).nulls) (.slice A3 (lkOut_S rows xs).list.length c3) (.slice A4 (lkOut_S rows xs).ends.length c4) (lkBase_S rows xs) (.slice A5 (lkOut_S rows xs).lanes.length c5) kind_S (.slice A6 (headOf rows xs).nulls.length c6)).toArray 94)).heap.size = g + 1) := hid (by simp [hg])
    clear h1 h2 h3 h4 h5 hb1 HLK
    rw [hg] at HCK
    have HGV1 := hid (HGV.out H0.out)
    have HPR1 := hid (HPR.out H0.out)
    clear HGV HPR
    obtain ⟨ps, hps⟩ : ∃ ps, tallyP_S (headOf rows xs).codec (headOf rows xs).wd (lkOut_S rows xs).list (lkOut_S rows xs).ends (lkBase_S rows xs) (lkOut_S rows xs).lanes (chosenN sel (headOf rows xs).nulls (64 * sn)) = ps := ⟨_, rfl⟩
    rw [hps] at HGV1 HPR1 HFP
    clear hps
    generalize (cntOf rows (headOf rows xs).nulls) = kk at *
    generalize headOf rows xs = H at *
    generalize lkOut_S rows xs = O at *
    generalize lkBase_S rows xs = bs at *
    unfold ck_S i64 kind_S at HB2 HZ2 HCK ⊢
    go_upto_region 4 with fail
    try simp only [hg]
    generalize w1.alloc (.cells #[.int .i64 rows, .int .i64 H.codec, .int .i64 H.wd, .slice A2 H.nulls.length c2, .int .i64 kk, .slice A3 O.list.length c3, .slice A4 O.ends.length c4, .int .i64 bs, .slice A5 O.lanes.length c5, .iface 66 (.agg #[]), .slice A6 H.nulls.length c6] 94) = w2 at *
    have HW2 := hid (HB0.out.trans (HB2.out.mono HB0.out.size))
    have HRK2 := hid (HRK.out.mono HB2.out)
    have HRP2 := hid (HRP.out.mono HB2.out)
    have HG2 := hid (HGV1.out w2 HW2.out g HCK.out)
    clear HGV1 HCK HRK HRP HB0 HB2 k0
    have hz2 := HZ2.out
    have HA3 := hid ((brefl w2).alloc (Nat.le_refl _) (.cells #[.int .i64 0, .int .i64 0, .int .u64 0, .bool false, .int .i64 0, .string ⟨#[]⟩, .bool false, .int .i64 0, .string ⟨#[]⟩] 44))
    have HRW3 : Hid (Row (w2.alloc (.cells #[.int .i64 0, .int .i64 0, .int .u64 0, .bool false, .int .i64 0, .string ⟨#[]⟩, .bool false, .int .i64 0, .string ⟨#[]⟩] 44)) (g + 1) 44 [.int .i64 0, .int .i64 0, .int .u64 0, .bool false, .int .i64 0, .string ⟨#[]⟩, .bool false, .int .i64 0, .string ⟨#[]⟩]) := hid (by rw [← hz2]; unfold Row; rw [heap_alloc_new])
    have HZ3 : Hid ((w2.alloc (.cells #[.int .i64 0, .int .i64 0, .int .u64 0, .bool false, .int .i64 0, .string ⟨#[]⟩, .bool false, .int .i64 0, .string ⟨#[]⟩] 44)).heap.size = g + 2) := hid (by simp [hz2])
    go_upto_region 5 with fail
    generalize w2.alloc (.cells #[.int .i64 0, .int .i64 0, .int .u64 0, .bool false, .int .i64 0, .string ⟨#[]⟩, .bool false, .int .i64 0, .string ⟨#[]⟩] 44) = w3 at *
    have HTA := hid (Tally_S w3 g As sn cs)
    have HA4 := hid ((((brefl w3).alloc (Nat.le_refl _) (.cells #[.pointer (some ⟨g, 0, none⟩)] 104))).alloc (by simp) (.cells #[.slice As sn cs] 28))
    have HZ4 : Hid (((w3.alloc (.cells #[.pointer (some ⟨g, 0, none⟩)] 104)).alloc (.cells #[.slice As sn cs] 28)).heap.size = g + 4) := hid (by have := HZ3.out; simp; omega)
    have HP4 : Hid (((w3.alloc (.cells #[.pointer (some ⟨g, 0, none⟩)] 104)).alloc (.cells #[.slice As sn cs] 28)).cell? ⟨g + 2, 0, none⟩ = some (.pointer (some ⟨g, 0, none⟩))) := hid (by rw [← HZ3.out]; simp)
    have HQ4 : Hid (((w3.alloc (.cells #[.pointer (some ⟨g, 0, none⟩)] 104)).alloc (.cells #[.slice As sn cs] 28)).cell? ⟨g + 2 + 1, 0, none⟩ = some (.slice As sn cs)) := hid (by rw [← HZ3.out]; simp)
    rw [HZ3.out] at HTA
    go_wp2_with (go_at_call 69; refine HTA.out.mono ?_; rintro e w4 ⟨rfl, hw4⟩; rw [← hw4] at HA4 HZ4 HP4 HQ4; clear hw4)
    have hz4 := HZ4.out
    have HB34 := hid (HA3.out.trans (HA4.out.mono (by have := HZ3.out; omega)))
    have HRK4 := hid (HRK2.out.mono HB34.out)
    have HRP4 := hid (HRP2.out.mono HB34.out)
    have HRW4 := hid (HRW3.out.mono HA4.out)
    have HW4 := hid (HW2.out.trans (HB34.out.mono HW2.out.size))
    clear HRK2 HRP2 HRW3 HA3 HA4 HTA
    generalize Value.agg #[.int .i64 rows, .int .i64 H.codec, .int .i64 H.wd, .slice A2 H.nulls.length c2, .int .i64 kk, .slice A3 O.list.length c3, .slice A4 O.ends.length c4, .int .i64 bs, .slice A5 O.lanes.length c5, .iface 66 (.agg #[]), .slice A6 H.nulls.length c6] = AG
    obtain ⟨I, hI⟩ : ∃ I : List (ByteArray × Nat) → World → Prop, I = fun pre W => Row W s 91 [.iface 66 (.agg #[])] ∧ Row W (g + 1) 44 (foldT (pre.map eP_S)).vs ∧ Row W (s + 1) 44 [.int .i64 0, .int .i64 0, .int .u64 0, .bool false, .int .i64 0, .string ⟨#[]⟩, .bool false, .int .i64 0, .string ⟨#[]⟩] ∧ Below w.heap.size w W := ⟨_, rfl⟩
    have HI := hid hI
    clear hI
    refine wpIn_wide.1 (range_all (n := 9) rfl (gf := 118) (lb := #[.pointer (some ⟨g + 2, 0, none⟩), .pointer (some ⟨g + 2 + 1, 0, none⟩)]) rfl (enters_of Tryz.func118 (by kernel_rfl) rfl)
      (HG2.out w4 HB34.out (fun k => k < g + 1 ∨ k = g + 2 ∨ k = g + 3) (fun k hk => .inl (by omega)) (fun k hk => by omega) _ _ (by omega) (by omega) (.inr (.inr rfl)) (.inr (.inl rfl)) HQ4.out HP4.out) (brefl w4) (fun k hk => by omega) (fun _ => rfl)
      I
      (fun pre A B h hb => by rw [HI.out] at h ⊢; exact ⟨h.1.below hb (by omega), h.2.1.below hb (by omega), h.2.2.1.below hb (by omega), h.2.2.2.trans (hb.mono (by omega))⟩)
      (by rw [HI.out]; exact ⟨HRK4.out, HRW4.out, HRP4.out, HW4.out⟩)
      (fun x => { tmps := #[.iface 66 (.agg #[]), .int .i64 rows, .slice A0 xs.length c0, .slice As sn cs, .pointer (some ⟨s, 0, none⟩), undef, undef, undef, .pointer (some ⟨s + 1, 0, none⟩), .int .i64 0, .pointer (some ⟨g, 0, none⟩), .bool true, .pointer (some ⟨g + 1, 0, none⟩), vS x.1, .int .i64 (x.2 : Nat),
        .tuple #[AG, .bool true], .iface 66 (.agg #[]), .int .i64 rows, .slice A0 xs.length c0, .tuple #[AG, .bool true], AG, .bool true, .bool true, .bool false, undef, .slice As sn cs, .func (.func 118) #[] #[.pointer (some ⟨g + 2, 0, none⟩), .pointer (some ⟨g + 2 + 1, 0, none⟩)], vS x.1, .int .i64 (x.2 : Nat), undef, undef, undef, undef, undef, undef, undef, undef], defers := [] })
      ?assign ?body ?done)
    case assign =>
      intro l x W K hK
      unfold vS at hK ⊢
      gi_wp2
      exact hK
    case body =>
      rintro l pre x W hpre hIW hsW hmW
      have HIW := hid hIW
      rw [HI.out] at hIW
      obtain ⟨r1, r2, r3, hbW⟩ := hIW
      obtain ⟨xv, xn⟩ := x
      have hpx : (-9223372036854775808 ≤ (vC_S xv).i ∧ (vC_S xv).i ≤ 9223372036854775807) ∧ xn ≤ 1048576 := HPR1.out (xv, xn) (mem_prefix hpre).1
      have HFS : Hid (foldT ((pre ++ [(xv, xn)]).map eP_S) = mergeP (foldT (pre.map eP_S)) (oneP (vC_S xv) xn)) := hid (by rw [List.map_append, List.map_cons, List.map_nil, foldT_snoc]; rfl)
      have hlo := foldT_lo (pre.map eP_S)
      generalize foldT (pre.map eP_S) = q at *
      have HCE : Hid (∀ w9 : World, Calls Tryz.prog 265 #[.agg #[], vS xv] w9 fun e w' => e = .returned (vC_S xv).v ∧ Below w9.heap.size w9 w') := hid (fun w9 : World => CellRaw_S xv w9)
      unfold vS at HCE
      have HPO := hid (fun w9 : World => partOf_any (vC_S xv) xn w9 hpx.1 hpx.2)
      have HMG := hid (fun w9 : World => Merge_any q (oneP (vC_S xv) xn) w9 hlo (oneP_lo _ _))
      generalize vC_S xv = cv at *
      generalize oneP cv xn = one at *
      have hy := r1.cell 0
      simp only [List.getElem?_cons_zero] at hy
      have HR1 := hid r1; have HR2 := hid r2; have HR3 := hid r3; have HBW := hid hbW
      obtain ⟨y0, y1, y2, y3, y4, y5, y6, y7, y8⟩ := row9 r2
      have hmx : Tryz.prog.follows .mixedOrders = true := by kernel_rfl
      clear r1 r2 r3 hbW hpx hlo
      generalize mergeP q one = mg at *
      unfold vS
      generalize cv.v = cvv at *
      unfold P9.v at HMG HPO
      gi_wp2
      gi_region_with_o (first
        | (refine ⟨trivial, ?_⟩; gi_at_call 265; refine (CallsIn.inRound l (callsIn_wide.2 (HCE.out _))).mono ?_; rintro e w5 ⟨rfl, hb5⟩; have HB5 : Hid (Below W.heap.size W w5) := hid (bthen (bdrew (brefl W) 1) hb5); obtain ⟨q0, q1, q2, q3, q4, q5, q6, q7, q8⟩ := row9 (HR2.out.mono HB5.out); clear hb5)
        | (refine ⟨trivial, ?_⟩; gi_at_call 70; refine (CallsIn.inRound l (callsIn_wide.2 (HPO.out _))).mono ?_; rintro e w6 ⟨rfl, hb6⟩; have HB6 : Hid (Below W.heap.size W w6) := hid (bthen HB5.out hb6); obtain ⟨t0, t1, t2, t3, t4, t5, t6, t7, t8⟩ := row9 (HR2.out.mono HB6.out); clear hb6)
        | (refine ⟨trivial, ?_⟩; gi_at_call 23; refine (CallsIn.inRound l (callsIn_wide.2 (HMG.out _))).mono ?_; rintro e w7 ⟨rfl, hb7⟩; have HB7 : Hid (Below W.heap.size W w7) := hid (bthen HB6.out hb7); obtain ⟨v0, v1, v2, v3, v4, v5, v6, v7, v8⟩ := row9 (HR2.out.mono HB7.out); obtain ⟨f0, f1, f2, f3, f4, f5, f6, f7, f8⟩ := frz9 (HR2.out.mono HB7.out); clear hb7))
      all_goals gi_wp2
      all_goals
        refine ⟨?_, ((Mid.of_below HB7.out).trans (set9_mid (U := fun k => k < g + 1 ∨ k = g + 2 ∨ k = g + 3) (b := g + 4) w7 (g + 1) (by omega) (by omega) (.int .i64 mg.ct) (.int .i64 mg.hi) (.int .u64 mg.lo) (.bool mg.mn.n) (.int .i64 mg.mn.i) (.string mg.mn.s) (.bool mg.mx.n) (.int .i64 mg.mx.i) (.string mg.mx.s)))⟩
        rw [HI.out]
        refine ⟨set9_other (HR1.out.mono HB7.out) (by omega) _ _ _ _ _ _ _ _ _, ?_, set9_other (HR3.out.mono HB7.out) (by omega) _ _ _ _ _ _ _ _ _, set9_below (HBW.out.trans (HB7.out.mono (by have := hsW; omega))) (g + 1) (by omega) _ _ _ _ _ _ _ _ _⟩
        rw [HFS.out]
        exact set9_row (HR2.out.mono HB7.out) _ _ _ _ _ _ _ _ _
    case done =>
      rintro W hIW hmW hK
      rw [HI.out] at hIW
      obtain ⟨r1, r2, r3, hbW⟩ := hIW
      rw [← HFP.out] at r2
      have HR2 := hid r2; have HR3 := hid r3; have HBW := hid hbW; have HKK := hid hK
      obtain ⟨y0, y1, y2, y3, y4, y5, y6, y7, y8⟩ := row9 r2
      obtain ⟨z0, z1, z2, z3, z4, z5, z6, z7, z8⟩ := row9 r3
      obtain ⟨f0, f1, f2, f3, f4, f5, f6, f7, f8⟩ := frz9 r3
      clear r1 r2 r3 hbW hK
      go_wp2_with fail
      have HRF := hid (set9_row HR3.out (.int .i64 fp.ct) (.int .i64 fp.hi) (.int .u64 fp.lo) (.bool fp.mn.n) (.int .i64 fp.mn.i) (.string fp.mn.s) (.bool fp.mx.n) (.int .i64 fp.mx.i) (.string fp.mx.s))
      have HBF := hid (set9_below HBW.out (s + 1) (by omega) (.int .i64 fp.ct) (.int .i64 fp.hi) (.int .u64 fp.lo) (.bool fp.mn.n) (.int .i64 fp.mn.i) (.string fp.mn.s) (.bool fp.mx.n) (.int .i64 fp.mx.i) (.string fp.mx.s))
      have hwk : w4.heap.size < W.heap.size := (Array.getElem?_eq_some_iff.1 HKK.out).1
      have HKF := hid (((set9_mid (U := fun k => k = g + 4) (b := W.heap.size) W (s + 1) (by omega) (by omega) (.int .i64 fp.ct) (.int .i64 fp.hi) (.int .u64 fp.lo) (.bool fp.mn.n) (.int .i64 fp.mn.i) (.string fp.mn.s) (.bool fp.mx.n) (.int .i64 fp.mx.i) (.string fp.mx.s)).keep w4.heap.size hwk (.inl hz4)).trans HKK.out)
      unfold set9 at HRF HBF HKF
      refine ⟨by simp, .inl ⟨_, _, rfl, run_takeDeferred HKF.out, ?_⟩⟩
      have HPB := hid (put_below (o' := .deferred none) HKF.out (Nat.le_refl _))
      have HRZ := hid (HRF.out.below HPB.out (by omega))
      refine ⟨.tuple #[fp.v, .int .i64 0], ?_, HBF.out.trans (HPB.out.mono (by omega)), .inr ⟨H0.out, rfl⟩⟩
      clear y0 y1 y2 y3 y4 y5 y6 y7 y8 z0 z1 z2 z3 z4 z5 z6 z7 z8 f0 f1 f2 f3 f4 f5 f6 f7 f8
      obtain ⟨y0, y1, y2, y3, y4, y5, y6, y7, y8⟩ := row9 HRZ.out
      clear HRZ HPB HRF HBF HKF
      unfold P9.v
      simp [results, Tryz.results37, go_sem, y0, y1, y2, y3, y4, y5, y6, y7, y8]
end Go.Proofs.YthonbfojpbfmgaaGreatDoor

/- A body that a look finds valid has what a fold asks (strings). -/
set_option linter.unusedVariables false
set_option linter.unusedSimpArgs false
set_option linter.unnecessarySimpa false
set_option maxRecDepth 20000
namespace Go.Proofs.YthonbfojpbfmgaaGreatDoor
open Go.RowKit

theorem wd13_S {rows : Nat} {xs : List Nat} (h : lkOk_S rows xs = true) (hc : (headOf rows xs).codec = 1 ∨ (headOf rows xs).codec = 3) : (headOf rows xs).wd = 0 := by
  unfold lkOk_S at h
  simp only [Bool.and_eq_true] at h
  have hb := h.2.1
  unfold lkOut_S outPay_S at hb
  rcases hc with e | e
  · rw [e, if_pos rfl] at hb
    unfold outPlain_S at hb
    simp at hb
    omega
  · rw [e, if_neg (by decide), if_neg (by decide)] at hb
    unfold outRuns_S at hb
    split at hb
    · cases hb
    · rename_i hc
      simp only [not_or] at hc
      omega
theorem listV_S (rows : Nat) (xs : List Nat) : ∀ x ∈ (lkOut_S rows xs).list, okL_S x := fun _ _ => trivial
theorem ok_getD_S {list : List ByteArray} (h : ∀ x ∈ list, okL_S x) (k : Nat) (hk : k < list.length) : okL_S (list.getD k dfS) := trivial
theorem vlV_S {codec wd : Nat} {list : List ByteArray} {ends : List Nat} {base : Int} {lanes : List Nat} {j : Nat} (hl : ∀ x ∈ list, okL_S x) (hok : okv_S codec wd list ends lanes j) : okL_S (vl_S codec wd list ends base lanes j) := trivial
theorem tallyN_S (codec wd : Nat) (list : List ByteArray) (ends : List Nat) (base : Int) (lanes js : List Nat) (hl : ∀ x ∈ list, okL_S x) (hj : ∀ j ∈ js, okv_S codec wd list ends lanes j) :
    ∀ p ∈ tallyP_S codec wd list ends base lanes js, okL_S p.1 ∧ 0 < p.2 ∧ p.2 ≤ js.length + 1 := by
  intro p hp
  have key : ∀ f, p ∈ shL dfS list (cntsL f js list.length) list.length → okL_S p.1 ∧ 0 < p.2 ∧ p.2 ≤ js.length + 1 := by
    intro f hp
    unfold shL at hp
    simp only [List.mem_map, List.mem_filter, List.mem_range, decide_eq_true_eq] at hp
    obtain ⟨i, ⟨h1, h2⟩, rfl⟩ := hp
    refine ⟨ok_getD_S hl i h1, h2, ?_⟩
    simp only
    rw [cntsL_get _ _ _ _ h1]
    have := cntOfF_le f js i
    omega
  unfold tallyP_S at hp
  split at hp
  · exact key _ hp
  split at hp
  · exact key _ hp
  · rw [List.mem_map] at hp
    obtain ⟨j, h1, rfl⟩ := hp
    exact ⟨vlV_S (base := base) hl (hj j h1), Nat.one_pos, Nat.le_add_left 1 _⟩
theorem tlD_S (rows : Nat) (xs sel : List Nat) (hb : ∀ x ∈ xs, x < 256) (hl : xs.length ≤ 16777216) (hrr : rows ≤ 65536) (h : lkOk_S rows xs = true) (hsr : ∀ r, bitOf sel r = true → r < rows) :
    TlD_S (headOf rows xs).codec (headOf rows xs).wd (lkOut_S rows xs).list (lkOut_S rows xs).ends (lkOut_S rows xs).lanes (chosenN sel (headOf rows xs).nulls (64 * sel.length)) := by
  have hV := valid_S rows xs hb hl hrr h
  have hF := (filD_S rows xs hb hl hrr h).hd
  have hw13 := wd13_S h
  have hJ : ∀ j ∈ chosenN sel (headOf rows xs).nulls (64 * sel.length), j < cntOf rows (headOf rows xs).nulls := fun j hj => by
    obtain ⟨r, h1, _, h2, rfl⟩ := chosen_lt hV.nv hsr hj
    exact rank_lt _ r h1 h2
  have hk6 : cntOf rows (headOf rows xs).nulls ≤ 65536 := by unfold cntOf; omega
  have hw64 : (headOf rows xs).wd ≤ 64 := by
    rcases hF with ⟨h1, _⟩ | ⟨h1, _⟩ | h1
    · rw [hw13 (.inl h1)]; decide
    · rw [hw13 (.inr h1)]; decide
    · have h2 := h1.ok
      by_cases hc : 0 ≤ ((headOf rows xs).wd : Int) ∧ ((headOf rows xs).wd : Int) ≤ 64 ∧ 0 ≤ ((cntOf rows (headOf rows xs).nulls : Nat) : Int) ∧ ((cntOf rows (headOf rows xs).nulls : Nat) : Int) ≤ 65536
      · omega
      · rw [okPack_not _ hc] at h2; cases h2
  refine ⟨hV.ll, hV.el, hV.lv, hw64, fun j hj => ⟨by have := hJ j hj; omega, hV.ok j (hJ j hj)⟩, fun h2 j hj => ?_, fun h3 => ?_⟩
  · refine ⟨by have := hJ j hj; omega, ?_⟩
    have := hV.ok j (hJ j hj)
    rw [h2] at this
    unfold okv_S ok_S at this
    rcases this with ⟨h9, _⟩ | ⟨_, h5, _, h6⟩ | ⟨h9, _⟩
    · omega
    · exact ⟨h5, h6⟩
    · omega
  · rcases hF with ⟨h1, _⟩ | ⟨_, h4, _, _, h5, h6⟩ | h1
    · omega
    · refine ⟨fun a b hab hb2 => ?_, h4.symm, fun j hj => ⟨by have := hJ j hj; omega, ?_⟩⟩
      · rw [nI_length] at hb2
        rw [nI_get _ a (by omega), nI_get _ b hb2]
        have := h5 a b hab hb2
        omega
      · have := hV.ok j (hJ j hj)
        rw [h3] at this
        unfold okv_S ok_S at this
        rcases this with ⟨h9, _⟩ | ⟨h9, _⟩ | ⟨_, h9, _⟩
        · omega
        · omega
        · omega
    · have := h1.cd
      omega
end Go.Proofs.YthonbfojpbfmgaaGreatDoor

/- The Part that the code tells is the Part that the plain answer tells (strings). -/
set_option linter.unusedVariables false
set_option linter.unusedSimpArgs false
set_option linter.unnecessarySimpa false
set_option maxRecDepth 20000
namespace Go.Proofs.YthonbfojpbfmgaaGreatDoor
open Go.RowKit

theorem flat_map_S (ps : List (ByteArray × Nat)) : flatT (ps.map eP_S) = (ps.flatMap fun p => List.replicate p.2 p.1).map vC_S := by
  unfold flatT eP_S
  rw [List.flatMap_map, List.map_flatMap]
  simp
/-- the tally's values are the chosen ones, in another order -/
theorem tallyPerm_S (codec wd : Nat) (list : List ByteArray) (ends : List Nat) (base : Int) (lanes js : List Nat) (h : TlD_S codec wd list ends lanes js) :
    (flatT ((tallyP_S codec wd list ends base lanes js).map eP_S)).Perm (js.map fun j => vC_S (vl_S codec wd list ends base lanes j)) := by
  rw [flat_map_S]
  rw [show (js.map fun j => vC_S (vl_S codec wd list ends base lanes j)) = (js.map fun j => vl_S codec wd list ends base lanes j).map vC_S by simp]
  refine List.Perm.map _ ?_
  unfold tallyP_S
  by_cases h2 : codec = 2
  · rw [if_pos h2]
    subst h2
    refine (shL_perm dfS list (L.laneOf wd lanes) js list.length (fun j hj => (h.two rfl j hj).2.1)).trans (List.Perm.of_eq ?_)
    apply List.map_congr_left
    intro j _
    unfold vl_S val_S
    simp
  by_cases h3 : codec = 3
  · rw [if_neg h2, if_pos h3]
    subst h3
    refine (shL_perm dfS list (runOf ends) js list.length (fun j hj => by
      have := (h.three rfl).2.2 j hj
      have h9 := (h.three rfl).2.1
      unfold runOf
      omega)).trans (List.Perm.of_eq ?_)
    apply List.map_congr_left
    intro j _
    unfold vl_S val_S runOf
    simp
  · rw [if_neg h2, if_neg h3]
    refine List.Perm.of_eq ?_
    clear h
    induction js with
    | nil => rfl
    | cons j r ih => simpa using ih
theorem chosenV_S {rows : Nat} {xs sel : List Nat} (hb : ∀ x ∈ xs, x < 256) (hl : xs.length ≤ 16777216) (hrr : rows ≤ 65536) (h : lkOk_S rows xs = true) (hsr : ∀ r, bitOf sel r = true → r < rows) (hsl : sel.length = (rows + 63) / 64) :
    (rfoVals 2 rows xs sel).map pcC = (chosenN sel (headOf rows xs).nulls (64 * sel.length)).map fun j => vC_S (vl_S (headOf rows xs).codec (headOf rows xs).wd (lkOut_S rows xs).list (lkOut_S rows xs).ends (lkBase_S rows xs) (lkOut_S rows xs).lanes j) := by
  have hV := valid_S rows xs hb hl hrr h
  have hok : rOk 2 rows xs = true := by rw [← (meet_S rows xs hrr).1]; exact h
  unfold rfoVals selV chosenN idxN
  rw [Int.toNat_natCast, show (2 : Int).toNat = 2 from rfl, List.map_map, List.map_map]
  rw [filter_range (m := 64 * sel.length) (n := rows) (bitOf (cmb sel (headOf rows xs).nulls)) (by omega) (fun r hr => by
    rw [cmb_bit sel _ hV.nv, Bool.and_eq_true] at hr
    exact hsr r hr.1)]
  have e1 : (List.range rows).filter (fun r => bitOf sel r && !cA (rWs rows xs) r) = (List.range rows).filter (bitOf (cmb sel (headOf rows xs).nulls)) := by
    apply List.filter_congr
    intro r hr
    rw [cmb_bit sel _ hV.nv, (cells_S hrr hok (List.mem_range.1 hr)).1]
  rw [e1]
  apply List.map_congr_left
  intro r hr
  rw [List.mem_filter, List.mem_range, cmb_bit sel _ hV.nv, Bool.and_eq_true, Bool.not_eq_true'] at hr
  have := (cells_S hrr hok hr.1).2 hr.2.2
  simp only [Function.comp]
  rw [this]
  rfl
theorem foD_S (rows : Nat) (xs sel : List Nat) (hb : ∀ x ∈ xs, x < 256) (hl : xs.length ≤ 16777216) (hrr : rows ≤ 65536) (hsr : ∀ r, bitOf sel r = true → r < rows) (hsl : sel.length = (rows + 63) / 64) (h : lkOk_S rows xs = true) : FoD_S rows xs sel := by
  have hV := valid_S rows xs hb hl hrr h
  have hT := tlD_S rows xs sel hb hl hrr h hsr
  have hlen := chosenN_len sel (headOf rows xs).nulls (64 * sel.length)
  have hN := tallyN_S (headOf rows xs).codec (headOf rows xs).wd (lkOut_S rows xs).list (lkOut_S rows xs).ends (lkBase_S rows xs) (lkOut_S rows xs).lanes _ (listV_S rows xs) (fun j hj => (hT.jj j hj).2)
  refine ⟨hT, hV.nl, hV.nv, fun p hp => ?_⟩
  obtain ⟨h1, _, h3⟩ := hN p hp
  exact ⟨⟨by show (-9223372036854775808 : Int) ≤ 0; decide, by show (0 : Int) ≤ 9223372036854775807; decide⟩, by omega⟩
theorem foldEq_S (rows : Nat) (xs sel : List Nat) (hb : ∀ x ∈ xs, x < 256) (hl : xs.length ≤ 16777216) (hrr : rows ≤ 65536) (hsr : ∀ r, bitOf sel r = true → r < rows) (hsl : sel.length = (rows + 63) / 64) (h : lkOk_S rows xs = true) : foldP_S rows xs sel = refP (rfoVals 2 rows xs sel) := by
  have hF := foD_S rows xs sel hb hl hrr hsr hsl h
  have hT := hF.tl
  have hlen := chosenN_len sel (headOf rows xs).nulls (64 * sel.length)
  have hN := tallyN_S (headOf rows xs).codec (headOf rows xs).wd (lkOut_S rows xs).list (lkOut_S rows xs).ends (lkBase_S rows xs) (lkOut_S rows xs).lanes _ (listV_S rows xs) (fun j hj => (hT.jj j hj).2)
  have hP := tallyPerm_S (headOf rows xs).codec (headOf rows xs).wd (lkOut_S rows xs).list (lkOut_S rows xs).ends (lkBase_S rows xs) (lkOut_S rows xs).lanes _ hT
  rw [← chosenV_S hb hl hrr h hsr hsl] at hP
  unfold foldP_S
  refine IsPart.unique (foldT_part _ _ rfl ?_ ?_ ?_) (refP_part _) hP ?_
  · rw [hP.length_eq, List.length_map]
    unfold rfoVals
    have := selV_len (cA (rWs (rows : Int).toNat xs)) (cB (rWs (rows : Int).toNat xs) (rPay (2 : Int).toNat (rows : Int).toNat xs).2) (cC (rWs (rows : Int).toNat xs) (rPay (2 : Int).toNat (rows : Int).toNat xs).2) sel (rows : Int).toNat
    omega
  · intro p hp
    obtain ⟨q, hq, rfl⟩ := List.mem_map.1 hp
    exact (hN q hq).2.1
  · intro p hp
    obtain ⟨q, hq, rfl⟩ := List.mem_map.1 hp
    exact (hF.pr q hq).1
  · intro c hc
    have := hP.mem_iff.1 hc
    obtain ⟨v, _, rfl⟩ := List.mem_map.1 this
    rfl
end Go.Proofs.YthonbfojpbfmgaaGreatDoor
