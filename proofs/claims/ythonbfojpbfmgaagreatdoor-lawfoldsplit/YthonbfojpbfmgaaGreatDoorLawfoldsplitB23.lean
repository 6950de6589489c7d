/- Package chunk: chosen, tallyCodes (integers). -/
import Derived.Test.YthonbfojpbfmgaaGreatDoorLawfoldsplitB22
import Derived.Deep.QuietTactic
import Derived.Test.YthonbfojpbfmgaaGreatDoorLawfoldsplitB18
import Derived.Test.YthonbfojpbfmgaaGreatDoorLawfoldsplitB6
import Derived.Test.YthonbfojpbfmgaaGreatDoorLawfoldsplitB20
import Derived.Test.YthonbfojpbfmgaaGreatDoorLawfoldsplitB10
import Derived.Test.YthonbfojpbfmgaaGreatDoorLawfoldsplitB7
set_option linter.unusedVariables false
set_option linter.unusedSimpArgs false
set_option linter.unnecessarySimpa false
set_option maxRecDepth 100000
namespace Go.Proofs.YthonbfojpbfmgaaGreatDoor
open Go.RowKit Go.Shelf
attribute [local go_sem] Oper.semAt_some

theorem chosen_I (w : World) (g : Nat) (A : Option Addr) (n c : Nat) : Calls Tryz.prog 129 #[.pointer (some ⟨g, 0, none⟩), .slice A n c] w fun e w' =>
    e = .returned (.func (.func 170) #[] #[.pointer (some ⟨w.heap.size + 1, 0, none⟩), .pointer (some ⟨w.heap.size, 0, none⟩)]) ∧ w' = (w.alloc (.cells #[.pointer (some ⟨g, 0, none⟩)] 115)).alloc (.cells #[.slice A n c] 28) := by
  go_enter Tryz.func129, Tryz.ntmps129
  go_wp2_with fail
  go_ret
  exact ⟨rfl, rfl⟩
set_option maxHeartbeats 8000000 in
theorem tallyCodes_I (w : World) (g rows codec wd : Nat) (nulls : List Nat) (count : Int) (list : List Int) (ends : List Nat) (base : Int) (lanes : List Nat) (hk : Ck_I w g rows codec wd nulls count list ends base lanes) (hbm : nulls.length = (rows + 63) / 64) (hnv : ∀ x ∈ nulls, x < 18446744073709551616) (hrr : rows ≤ 65536)
    (sv : Value) (sel : List Nat) (hs : Rd w sv sel.length 1 (u64s sel)) (hsv : ∀ x ∈ sel, x < 18446744073709551616) (hsl : sel.length = (rows + 63) / 64) (hsr : ∀ r, bitOf sel r = true → r < rows) (hT : Tab w)
    (hll : list.length ≤ 16777216) (hlv : ∀ x ∈ lanes, x < 18446744073709551616) (hwd : wd ≤ 64) (hja : ∀ j ∈ chosenN sel nulls (64 * sel.length), j ≤ 65536 ∧ L.laneOf wd lanes j < list.length ∧ (0 < wd → j / (64 / wd) < lanes.length)) :
    Calls Tryz.prog 127 #[.pointer (some ⟨g, 0, none⟩), sv] w fun e w' => ∃ gc, e = .returned (.slice (some ⟨gc, 0, none⟩) list.length list.length) ∧ w.heap.size ≤ gc ∧
      Row w' gc 3 (ints (cntsL (L.laneOf wd lanes) (chosenN sel nulls (64 * sel.length)) list.length)) ∧ Below w.heap.size w w' := by
  obtain ⟨s, hsz⟩ : ∃ s, w.heap.size = s := ⟨_, rfl⟩
  have hgs : g < s := by obtain ⟨_, _, _, _, _, h1, _⟩ := hk.ex; rw [← hsz]; exact h1.lt
  have HCK := hid (fun (w1 : World) (hb : Below w.heap.size w w1) => hk.mono hb)
  have HLN := hid (fun (w1 : World) (hb : Below w.heap.size w w1) (j : Nat) (hj : j ∈ chosenN sel nulls (64 * sel.length)) => by
    obtain ⟨nu, lv, ev, nv, bef, q1, q2, q3, q4, q5, q6⟩ := (hk.mono hb).ex
    exact lane_I w1 g rows codec wd nu count lv ev base nv _ bef lanes j q1 q5 hlv hwd (hja j hj).1 (hja j hj).2.2)
  have HJA := hid hja
  have HGV := hid (fun (w0 : World) (hb : Below w.heap.size w w0) (U : Nat → Prop) (hU : ∀ k, k < w.heap.size → U k) (sb cb : Nat) (h1 : sb < w0.heap.size) (h2 : cb < w0.heap.size) (h3 : U sb) (h4 : U cb) (h5 : w0.cell? ⟨sb, 0, none⟩ = some sv) (h6 : w0.cell? ⟨cb, 0, none⟩ = some (.pointer (some ⟨g, 0, none⟩))) =>
    chosen_gives_I w g rows codec wd nulls count list ends base lanes hk hbm hnv hrr sv sel hs hsv hsl hsr hT w0 hb U hU sb cb h1 h2 h3 h4 h5 h6)
  obtain ⟨nu, lv, ev, nv, bef, q1, q2, q3, q4, q5, q6⟩ := hk.ex
  have HQ1 := hid q1
  obtain ⟨Al, cl, rfl, _, _, _⟩ := q3.form
  obtain ⟨As, cs, rfl, _, _, _⟩ := hs.form
  have hjl := chosenN_len sel nulls (64 * sel.length)
  have hjl2 : (chosenN sel nulls (64 * sel.length)).length ≤ 70000 := by omega
  clear hk hbm hnv hs hsv hsl hsr hT hlv hja q1 q2 q3 q4 q5 q6 hjl
  generalize chosenN sel nulls (64 * sel.length) = js at *
  generalize sel.length = sn at *
  obtain ⟨m, hm⟩ : ∃ m, list.length = m := ⟨_, rfl⟩
  have HM := hid hm
  simp only [hm] at hll HQ1 HJA ⊢
  rw [hsz] at HCK HLN HGV ⊢
  have HSZ := hid hsz
  clear hm
  have HQB : Hid (∀ w1 : World, Below s w w1 → w1.cell? ⟨g, 5, none⟩ = some (.slice Al m cl)) := hid (fun w1 hb => by rw [(HQ1.out.mono (by rw [hsz]; exact hb)).cell]; rfl)
  refine (callsIn_wide (n := 9)).1 ?_
  refine callsIn_of_wp_marks Tryz.func127 rfl trivial ?_ rfl
  simp only [Tryz.ntmps127, List.size_toArray, List.length_cons, List.length_nil, Nat.reduceAdd, Nat.reduceSub, Array.replicate_succ, Array.replicate_zero, List.push_toArray, List.append_toArray, List.nil_append, List.cons_append]
  refine wpIn_wide.2 ?_
  have hb1 : Below s w (w.alloc (.cells #[.pointer (some ⟨g, 0, none⟩)] 115)) := by rw [← hsz]; exact (brefl w).alloc (Nat.le_refl _) _
  have c5 := HQB.out _ hb1
  have hr1 : Row (w.alloc (.cells #[.pointer (some ⟨g, 0, none⟩)] 115)) s 115 [.pointer (some ⟨g, 0, none⟩)] := by rw [← hsz]; unfold Row; rw [heap_alloc_new]
  have hs1 : (w.alloc (.cells #[.pointer (some ⟨g, 0, none⟩)] 115)).heap.size = s + 1 := by simp [hsz]
  have HB1 := hid hb1; have HR1 := hid hr1; have HS1 := hid hs1
  clear hb1 hr1 hs1
  go_upto_region 1 with fail
  generalize w.alloc (.cells #[.pointer (some ⟨g, 0, none⟩)] 115) = w1 at *
  have d0 := HR1.out.cell 0
  simp only [List.getElem?_cons_zero] at d0
  go_wp2
  refine upon_make 3 (.int .i64 0) 8 Tryz.underlying92 Tryz.infoI64 rfl m (by omega) (by omega) (by omega) (by unfold maxLen; omega) ?_
  intro w2 hrow hb2 hsz2
  rw [HS1.out] at hrow hsz2 ⊢
  have HROW := hid hrow
  have hs1 := HS1.out
  have HB2 := hid (HB1.out.trans (hb2.mono (by omega)))
  have HR2 := hid (HR1.out.below hb2 (by omega))
  clear hrow hb2 d0 HR1 HB1 c5
  go_upto_region 2 with fail
  have HA3 := hid ((brefl w2).alloc (Nat.le_refl _) (.cells #[.slice (some ⟨s + 1, 0, none⟩) m m] 92))
  have HC3 : Hid (Row (w2.alloc (.cells #[.slice (some ⟨s + 1, 0, none⟩) m m] 92)) (s + 1 + 1) 92 [.slice (some ⟨s + 1, 0, none⟩) m m]) := hid (by rw [← hsz2]; unfold Row; rw [heap_alloc_new])
  have hs3 : (w2.alloc (.cells #[.slice (some ⟨s + 1, 0, none⟩) m m] 92)).heap.size = s + 1 + 1 + 1 := by simp [hsz2]
  have HS3 := hid hs3
  have HR3 := hid (HR2.out.mono HA3.out)
  have HN3 := hid (HROW.out.mono HA3.out)
  have HB3 := hid (HB2.out.trans (HA3.out.mono (by omega)))
  clear HR2 HROW HB2 HA3 hs3
  generalize w2.alloc (.cells #[.slice (some ⟨s + 1, 0, none⟩) m m] 92) = w3 at *
  clear hsz2
  have d0 := HR3.out.cell 0
  simp only [List.getElem?_cons_zero] at d0
  have HCO := hid (chosen_I w3 g As sn cs)
  have HA4 := hid ((((brefl w3).alloc (Nat.le_refl _) (.cells #[.pointer (some ⟨g, 0, none⟩)] 115))).alloc (by simp) (.cells #[.slice As sn cs] 28))
  have HZ4 : Hid (((w3.alloc (.cells #[.pointer (some ⟨g, 0, none⟩)] 115)).alloc (.cells #[.slice As sn cs] 28)).heap.size = s + 5) := hid (by have := HS3.out; simp; omega)
  have HP4 : Hid (((w3.alloc (.cells #[.pointer (some ⟨g, 0, none⟩)] 115)).alloc (.cells #[.slice As sn cs] 28)).cell? ⟨s + 1 + 1 + 1, 0, none⟩ = some (.pointer (some ⟨g, 0, none⟩))) := hid (by rw [← HS3.out]; simp)
  have HQ4 : Hid (((w3.alloc (.cells #[.pointer (some ⟨g, 0, none⟩)] 115)).alloc (.cells #[.slice As sn cs] 28)).cell? ⟨s + 1 + 1 + 1 + 1, 0, none⟩ = some (.slice As sn cs)) := hid (by rw [← HS3.out]; simp)
  rw [HS3.out] at HCO
  go_wp2_with (go_at_call 129; refine HCO.out.mono ?_; rintro e w4 ⟨rfl, hw4⟩; rw [← hw4] at HA4 HZ4 HP4 HQ4; clear hw4)
  have HR4 := hid (HR3.out.mono HA4.out)
  have HN4 := hid (HN3.out.mono HA4.out)
  have HC4 := hid (HC3.out.mono HA4.out)
  have HB4 := hid (HB3.out.trans (HA4.out.mono (by have := HS3.out; omega)))
  clear HR3 HN3 HC3 HB3 HA4 HCO HS3 HS1 d0
  have hz4 := HZ4.out
  refine wpIn_wide.1 (range_all (n := 9) rfl (gf := 170) (lb := #[.pointer (some ⟨s + 1 + 1 + 1 + 1, 0, none⟩), .pointer (some ⟨s + 1 + 1 + 1, 0, none⟩)]) rfl (enters_of Tryz.func170 (by kernel_rfl) rfl)
    (HGV.out w4 HB4.out (fun k => k < s ∨ k = s + 3 ∨ k = s + 4) (fun k hk => .inl hk) _ _ (by omega) (by omega) (.inr (.inr rfl)) (.inr (.inl rfl)) HQ4.out HP4.out) (brefl w4) (fun k hk => by omega) (fun _ => rfl)
    (fun pre W => Row W s 115 [.pointer (some ⟨g, 0, none⟩)] ∧ Row W (s + 1) 3 (ints (cntsL (L.laneOf wd lanes) pre m)) ∧ Row W (s + 1 + 1) 92 [.slice (some ⟨s + 1, 0, none⟩) m m] ∧ Below s w W)
    (fun pre A B h hb => ⟨h.1.below hb (by omega), h.2.1.below hb (by omega), h.2.2.1.below hb (by omega), h.2.2.2.trans (hb.mono (by omega))⟩)
    ⟨HR4.out, by rw [cntsL_nil]; exact HN4.out, HC4.out, HB4.out⟩
    (fun x => { tmps := #[.pointer (some ⟨g, 0, none⟩), .slice As sn cs, .pointer (some ⟨s, 0, none⟩), undef, .slice none 0 0, .pointer (some ⟨s + 1 + 1, 0, none⟩), .int .i64 (x : Int), .pointer (some ⟨g, 0, none⟩), .pointer (some ⟨g, 0, none⟩), .pointer (some ⟨g, 5, none⟩), .slice Al m cl, .int .i64 (m : Int), .slice (some ⟨s + 1, 0, none⟩) m m, .pointer (some ⟨g, 0, none⟩), .slice As sn cs, .func (.func 170) #[] #[.pointer (some ⟨s + 1 + 1 + 1 + 1, 0, none⟩), .pointer (some ⟨s + 1 + 1 + 1, 0, none⟩)], .int .i64 (x : Int), undef, undef, undef, undef, undef, undef, undef, undef, undef], defers := [] }) ?assign ?body ?done)
  case assign =>
    intro l x W K hK
    gi_wp2
    exact hK
  case body =>
    rintro l pre x W hpre ⟨r1, r2, r3, hbW⟩ hsW hmW
    obtain ⟨hmem, hpl⟩ := mem_prefix hpre
    obtain ⟨hx1, hx2, _⟩ := HJA.out x hmem
    have HLX := hid (fun (w9 : World) (hb : Below s w w9) => HLN.out w9 hb x hmem)
    have HSN := hid (cntsL_snoc (L.laneOf wd lanes) pre m x hx2)
    have hcl := cntOfF_le (L.laneOf wd lanes) pre (L.laneOf wd lanes x)
    have y1 := r2.cell (L.laneOf wd lanes x)
    rw [ints_cell _ _ (by rw [cntsL_len]; exact hx2), cntsL_get _ _ _ _ hx2] at y1
    have yf := r2.frozen (L.laneOf wd lanes x)
    have y2 := r3.cell 0
    have y3 := r1.cell 0
    simp only [List.getElem?_cons_zero] at y2 y3
    have HR1 := hid r1; have HR2 := hid r2; have HR3 := hid r3; have HBW := hid hbW
    have hxi : ((L.laneOf wd lanes x : Nat) : Int) < (m : Int) := by omega
    generalize cntOfF (L.laneOf wd lanes) pre (L.laneOf wd lanes x) = cn at *
    generalize hlx : L.laneOf wd lanes x = ln at *
    have hcn : cn ≤ 70000 := by omega
    have hmx : Tryz.prog.follows .mixedOrders = true := by kernel_rfl
    clear r1 r2 r3 hbW hlx
    gi_wp2
    gi_region_with_o (refine ⟨trivial, ?_⟩; gi_at_call 169; refine (CallsIn.inRound l (callsIn_wide.2 (HLX.out _ (Go.below_drewN HBW.out 1)))).mono ?_; rintro e w5 ⟨rfl, nd, rfl⟩)
    all_goals gi_wp2
    all_goals
      have hw : IntKind.i64.wrap ((cn : Int) + 1) = (cn : Int) + 1 := by rw [IntKind.wrap_i64]; omega
      rw [hw]
      refine ⟨⟨row_set_other HR1.out (by omega), ?_, row_set_other HR3.out (by omega), below_set (Go.below_drewN HBW.out _) _ _ _ (by omega)⟩, (Mid.drew W _).trans (Mid.set _ _ _ _ (by omega) (by omega))⟩
      rw [HSN.out]
      exact Row.set (w := W.drewN _) HR2.out ln _
  case done =>
    rintro W ⟨r1, r2, r3, hbW⟩ hmW hK
    have y2 := r3.cell 0
    simp only [List.getElem?_cons_zero] at y2
    have HR2 := hid r2; have HBW := hid hbW; have HKK := hid hK
    go_wp2_with fail
    have hput : Below w4.heap.size W (W.putObj w4.heap.size (.deferred none)) := put_below HKK.out (Nat.le_refl _)
    refine ⟨by simp, .inl ⟨_, _, rfl, run_takeDeferred HKK.out, ?_⟩⟩
    refine ⟨.slice (some ⟨s + 1, 0, none⟩) m m, ?_, _, rfl, by omega, HR2.out.below hput (by omega), HBW.out.trans (hput.mono (by omega))⟩
    simp [results, Tryz.results127, go_sem]
end Go.Proofs.YthonbfojpbfmgaaGreatDoor

/- Package kernel: a relation to a literal as one to a lane. -/
set_option linter.unusedVariables false
set_option linter.unusedSimpArgs false
set_option linter.unnecessarySimpa false
set_option maxRecDepth 100000
namespace Go.Proofs.YthonbfojpbfmgaaGreatDoor
open Go.RowKit

end Go.Proofs.YthonbfojpbfmgaaGreatDoor

/- Package kernel: bitmaps that the lanes' comparison made. -/
set_option linter.unusedVariables false
set_option linter.unusedSimpArgs false
set_option linter.unnecessarySimpa false
set_option maxRecDepth 100000
namespace Go.Proofs.YthonbfojpbfmgaaGreatDoor
open Go.RowKit

theorem nWords1k (n : Nat) : L.nWords 1 n = (n + 63) / 64 := by unfold L.nWords; simp
end Go.Proofs.YthonbfojpbfmgaaGreatDoor

/- Package kernel: the hits of chunks that hold a list (of integers). -/
set_option linter.unusedVariables false
set_option linter.unusedSimpArgs false
set_option linter.unnecessarySimpa false
set_option maxRecDepth 100000
namespace Go.Proofs.YthonbfojpbfmgaaGreatDoor
open Go.RowKit

/-- a leaf's literals in memory -/
structure Lit_I (w : World) (op : Int) (lv : Value) (lits : List Int) : Prop where
  rd : Rd w lv lits.length 1 (i64s lits)
  ok : litsOk op lits.length
  up : op = 7 → lits.Pairwise (· < ·)
  le : lits.length ≤ 1048576
theorem Lit_I.mono {w w' : World} {op : Int} {lv : Value} {lits : List Int} (h : Lit_I w op lv lits) (hb : Below w.heap.size w w') : Lit_I w' op lv lits := ⟨h.rd.mono hb, h.ok, h.up, h.le⟩
theorem Lit_I.holds {w : World} {op : Int} {lv : Value} {lits : List Int} (h : Lit_I w op lv lits) (v : Int) :
    Calls Tryz.prog 160 #[.agg #[.int .i64 op, lv], .int .i64 v] w fun e w' => e = .returned (.bool (leafT op (lits.map pI) (pI v))) ∧ Below w.heap.size w w' :=
  holdsI_any op lits lv v w h.rd h.ok h.up h.le
end Go.Proofs.YthonbfojpbfmgaaGreatDoor

/- Package codec: the numbers of integers. -/
set_option linter.unusedVariables false
set_option linter.unusedSimpArgs false
set_option linter.unnecessarySimpa false
set_option maxRecDepth 100000
namespace Go.Proofs.YthonbfojpbfmgaaGreatDoor
open Go.RowKit

theorem field_Int (b : Bool) (i : Int) (s : ByteArray) : ∀ w : World, (Instr.field 42 (.agg #[.bool b, .int .i64 i, .string s]) 1).run Tryz.prog w = .ok (.int .i64 i) w := fun _ => by rfl
set_option maxHeartbeats 4000000 in
theorem numbersI_any (xs : List Int) (u : Value) (w : World) (hu : Rd w u xs.length 1 (i64s xs)) (hl : xs.length ≤ 1048576) :
    Calls Tryz.prog 182 #[.iface 68 (.agg #[]), u] w fun e w' => ∃ r, e = .returned r ∧ w'.ownsRow w.heap.size 2 1 r xs.length (i64s xs) ∧ Below w.heap.size w w' := by
  have HU := hid hu
  obtain ⟨A1, c1, rfl, _, _, _⟩ := hu.form
  obtain ⟨n, hn⟩ : ∃ n, xs.length = n := ⟨_, rfl⟩
  have HN := hid hn
  rw [hn] at hl HU
  simp only [hn]
  clear hu hn
  go_enter Tryz.func182, Tryz.ntmps182
  go_wp2
  refine upon_make 2 (.int .i64 0) 8 Tryz.underlying51 Tryz.info64 rfl n (by omega) (by omega) (by omega) (by unfold maxLen; omega) ?_
  intro w2 hrow2 hb2 hsz2
  obtain ⟨q, hq⟩ : ∃ q, w.heap.size = q := ⟨_, rfl⟩
  have HQ := hid hq
  rw [hq] at hrow2 hb2 hsz2 ⊢
  have HROW2 := hid hrow2
  have HB2 := hid hb2
  clear hrow2 hb2 hq
  go_wp2
  go_loopw [13] (fun i wr => ∃ j : Nat, j ≤ n ∧ i = .int .i64 j ∧ Hid (Row wr q 2 (i64s (xs.take j) ++ List.replicate (n - j) (.int .i64 0))) ∧ Hid (Below q w wr) ∧ Hid (q < wr.heap.size)) (fun i _ => n - (intOf i).toNat)
  case atStart => exact ⟨0, by omega, rfl, hid (by simpa [i64s] using HROW2.out), HB2, hid (by omega)⟩
  case round =>
    obtain ⟨j, hj, rfl, HR, HB, HZ⟩ := hrel
    by_cases hlt : j < n
    · obtain ⟨b, o, rfl, hs⟩ := (HU.out.mono (by rw [HQ.out]; exact HB.out)).atI (by omega)
      have e1 := hs j (by rw [HN.out]; exact hlt)
      clear hs
      have HT := hid (take_snoc xs 0 j (by rw [HN.out]; exact hlt))
      generalize xs.getD j 0 = x at *
      have hmv := m_Cell_I
      have hfl := field_Int false x ByteArray.empty
      have HZQ := hid HZ.out
      go_wp2_with (go_at_call 271; refine (CellRaw_I x _).mono ?_; rintro e w5 ⟨rfl, hb5⟩; have HR5 := hid (HR.out.mono hb5); have HB5 := hid (HB.out.trans (hb5.mono (Nat.le_of_lt HZQ.out))); have HZ5 := hid (Nat.lt_of_lt_of_le HZQ.out hb5.size); clear hb5 hmv; have hcell : w5.cell? ⟨q, j, none⟩ = some (.int .i64 0) := (by rw [HR5.out.cell]; exact get_fill _ _ _ _ (by simp [i64s, List.length_take, HN.out]; omega) (by omega)); have hfr := HR5.out.frozen j)
      go_roundw
      case rel =>
        refine ⟨j + 1, by omega, by go_num, hid ?_, hid (below_set HB5.out _ _ _ (Nat.le_refl _)), hid (by simpa [World.setCell] using HZ5.out)⟩
        have hss := HR5.out.set j (.int .i64 x)
        rw [set_fill _ _ _ _ _ (by simp [i64s, List.length_take, HN.out]; omega) (by omega)] at hss
        rw [HT.out, i64s_append, ← Nat.sub_sub n j 1]
        exact hss
      case measure => simp [intOf]; omega
    · obtain rfl : j = n := by omega
      have htk : xs.take j = xs := by rw [← HN.out, List.take_length]
      rw [htk, Nat.sub_self, List.replicate_zero, List.append_nil] at HR
      go_wp2_with fail
      go_ret
      exact ⟨_, rfl, HR.out.owns (Nat.le_of_eq HQ.out) (by rw [i64s_length, HN.out]) (by unfold maxLen; omega), by rw [HQ.out]; exact HB.out⟩
end Go.Proofs.YthonbfojpbfmgaaGreatDoor

/- Package kernel: literals carried over into the domain of the lanes (integers). -/
set_option linter.unusedVariables false
set_option linter.unusedSimpArgs false
set_option linter.unnecessarySimpa false
set_option maxRecDepth 100000
namespace Go.Proofs.YthonbfojpbfmgaaGreatDoor
open Go.RowKit

/-- literals and codecs that come into question -/
def okL_I (x : Int) : Prop := okI x
def cdL_I (cd : Nat) : Prop := True
end Go.Proofs.YthonbfojpbfmgaaGreatDoor
