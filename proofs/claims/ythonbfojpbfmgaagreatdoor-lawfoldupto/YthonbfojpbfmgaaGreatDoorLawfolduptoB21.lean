/- Package kernel: the hits of chunks that hold a list (of integers). -/
import Derived.Test.YthonbfojpbfmgaaGreatDoorLawfolduptoB18
import Derived.Test.YthonbfojpbfmgaaGreatDoorLawfolduptoB20
import Derived.Test.YthonbfojpbfmgaaGreatDoorLawfolduptoB11
import Derived.Test.YthonbfojpbfmgaaGreatDoorLawfolduptoB6
import Derived.Test.YthonbfojpbfmgaaGreatDoorLawfolduptoB7
import Derived.Test.YthonbfojpbfmgaaGreatDoorLawfolduptoB0
import Derived.Deep.QuietTactic
set_option linter.unusedVariables false
set_option linter.unusedSimpArgs false
set_option linter.unnecessarySimpa false
set_option maxRecDepth 100000
namespace Go.Proofs.YthonbfojpbfmgaaGreatDoor
open Go.RowKit

/-- a leaf's literals in memory -/
structure Lit_I (w : World) (op : Int) (lv : Value) (lits : List Int) : Prop where
  rd : Rd w lv lits.length 1 (i64s lits)
  ok : litsOk op lits.length
  up : op = 7 → lits.Pairwise (· < ·)
  le : lits.length ≤ 1048576
theorem Lit_I.mono {w w' : World} {op : Int} {lv : Value} {lits : List Int} (h : Lit_I w op lv lits) (hb : Below w.heap.size w w') : Lit_I w' op lv lits := ⟨h.rd.mono hb, h.ok, h.up, h.le⟩
theorem Lit_I.holds {w : World} {op : Int} {lv : Value} {lits : List Int} (h : Lit_I w op lv lits) (v : Int) :
    Calls Tryz.prog 160 #[.agg #[.int .i64 op, lv], .int .i64 v] w fun e w' => e = .returned (.bool (leafT op (lits.map pI) (pI v))) ∧ Below w.heap.size w w' :=
  holdsI_any op lits lv v w h.rd h.ok h.up h.le
end Go.Proofs.YthonbfojpbfmgaaGreatDoor

/- Package codec: the numbers of integers. -/
set_option linter.unusedVariables false
set_option linter.unusedSimpArgs false
set_option linter.unnecessarySimpa false
set_option maxRecDepth 100000
namespace Go.Proofs.YthonbfojpbfmgaaGreatDoor
open Go.RowKit

end Go.Proofs.YthonbfojpbfmgaaGreatDoor

/- Package kernel: literals carried over into the domain of the lanes (integers). -/
set_option linter.unusedVariables false
set_option linter.unusedSimpArgs false
set_option linter.unnecessarySimpa false
set_option maxRecDepth 100000
namespace Go.Proofs.YthonbfojpbfmgaaGreatDoor
open Go.RowKit

/-- literals and codecs that come into question -/
def okL_I (x : Int) : Prop := okI x
def cdL_I (cd : Nat) : Prop := True
end Go.Proofs.YthonbfojpbfmgaaGreatDoor

/- Package kernel: hits out of lanes (integers). -/
set_option linter.unusedVariables false
set_option linter.unusedSimpArgs false
set_option linter.unnecessarySimpa false
set_option maxRecDepth 100000
namespace Go.Proofs.YthonbfojpbfmgaaGreatDoor
open Go.RowKit

/-- a chunk's lanes: what is known of them -/
structure LnD_I (codec wd count : Nat) (list : List Int) (base : Int) (lanes : List Nat) : Prop where
  cd : codec = 2 ∨ codec = 4 ∨ codec = 5
  cd2 : cdL_I codec
  ok : okPack wd count lanes = true
  lv : ∀ x ∈ lanes, x < 18446744073709551616
  lm : lanes.length ≤ 16777216
  ll : list.length ≤ 1048576
  cn : count ≤ 65536
  up : codec = 2 → ∀ a b, a < b → b < list.length → list.getD a 0 < list.getD b 0
  inl : codec = 2 → ∀ j, j < count → L.laneOf wd lanes j < list.length
  b : okI base
  rm : codec ≠ 2 → ∀ j, j < count → base + (L.laneOf wd lanes j : Int) ≤ 9223372036854775807
theorem firstGe_iff {es : List Int} {t : Int} (hup : ∀ a b, a < b → b < es.length → es.getD a 0 < es.getD b 0) {a : Nat} (ha : a < es.length) : a < firstGe es t ↔ es.getD a 0 < t := by
  have hg : ∀ (i : Nat) (h : i < es.length), es.getD i 0 = es[i] := fun i h => by simp [List.getD, List.getElem?_eq_getElem h]
  constructor
  · intro h
    have h1 := List.not_of_lt_findIdx (p := fun e => decide (t ≤ e)) (xs := es) h
    rw [hg a ha]
    simp only [decide_eq_true_eq, Int.not_le, Bool.not_eq_true, decide_eq_false_iff_not] at h1
    omega
  · intro h
    rcases Nat.lt_or_ge a (firstGe es t) with h1 | h1
    · exact h1
    · exfalso
      have hr : firstGe es t < es.length := by omega
      have h2 := List.findIdx_getElem (p := fun e => decide (t ≤ e)) (xs := es) (w := hr)
      simp only [decide_eq_true_eq] at h2
      have h3 : t ≤ es.getD (firstGe es t) 0 := by rw [hg _ hr]; exact h2
      by_cases he : a = firstGe es t
      · rw [he] at h; omega
      · have := hup _ _ (show firstGe es t < a by omega) ha
        omega
end Go.Proofs.YthonbfojpbfmgaaGreatDoor

/- The run in which a value stands. -/
set_option linter.unusedVariables false
set_option linter.unusedSimpArgs false
set_option linter.unnecessarySimpa false
set_option maxRecDepth 100000
namespace Go.Proofs.YthonbfojpbfmgaaGreatDoor
open Go.RowKit

/-- the run in which value number j stands -/
def runOf (ends : List Nat) (j : Nat) : Nat := firstGe (nI ends) ((j : Int) + 1)
theorem runOf_mono (ends : List Nat) (hup : ∀ a b, a < b → b < (nI ends).length → (nI ends).getD a 0 < (nI ends).getD b 0) (a b : Nat) (h : a ≤ b) : runOf ends a ≤ runOf ends b := by
  unfold runOf
  rcases Nat.lt_or_ge (firstGe (nI ends) ((b : Int) + 1)) (firstGe (nI ends) ((a : Int) + 1)) with hlt | hge
  · exfalso
    have hbl : firstGe (nI ends) ((b : Int) + 1) < (nI ends).length := Nat.lt_of_lt_of_le hlt (firstGe_le _ _)
    have h1 := (firstGe_iff hup hbl).1 hlt
    have h2 : ¬ (nI ends).getD (firstGe (nI ends) ((b : Int) + 1)) 0 < (b : Int) + 1 := fun hc => Nat.lt_irrefl _ ((firstGe_iff hup hbl).2 hc)
    omega
  · exact hge
theorem round_inRound {F : Fence} {n : Nat} {P : Program} {l : Nat} {f : FuncId} {tmps : Array Value} {assign body : Code} {w : World} {R : Ending → World → Prop} (l2 : Nat) (h : RoundIn F n P l f tmps assign body w R) : RoundIn (F.inRound l2) n P l f tmps assign body w R := h
theorem Mid.rd {U : Nat → Prop} {b : Nat} {w w' : World} (h : Mid U b w w') {g n : Nat} {e : TypeId} {cs : List Value} (hr : Row w g e cs) (hb : b ≤ g) (hn : cs.length = n) (hm : n ≤ maxLen) : Rd w' (.slice (some ⟨g, 0, none⟩) n n) n 1 cs := (h.row hr (.inr hb)).rd' hn hm
end Go.Proofs.YthonbfojpbfmgaaGreatDoor

/- Package chunk: tallyRuns (integers). -/
set_option linter.unusedVariables false
set_option linter.unusedSimpArgs false
set_option linter.unnecessarySimpa false
set_option maxRecDepth 100000
namespace Go.Proofs.YthonbfojpbfmgaaGreatDoor
open Go.RowKit Go.Shelf
attribute [local go_sem] Oper.semAt_some

set_option maxHeartbeats 8000000 in
theorem tallyRuns_I (w : World) (g rows codec wd : Nat) (nulls : List Nat) (count : Int) (list : List Int) (ends : List Nat) (base : Int) (lanes : List Nat) (hk : Ck_I w g rows codec wd nulls count list ends base lanes) (hbm : nulls.length = (rows + 63) / 64) (hnv : ∀ x ∈ nulls, x < 18446744073709551616) (hrr : rows ≤ 65536)
    (sv : Value) (sel : List Nat) (hs : Rd w sv sel.length 1 (u64s sel)) (hsv : ∀ x ∈ sel, x < 18446744073709551616) (hsl : sel.length = (rows + 63) / 64) (hsr : ∀ r, bitOf sel r = true → r < rows) (hT : Tab w)
    (hll : list.length ≤ 16777216) (hup : ∀ a b, a < b → b < (nI ends).length → (nI ends).getD a 0 < (nI ends).getD b 0) (hel : ends.length = list.length) (hja : ∀ j ∈ chosenN sel nulls (64 * sel.length), j ≤ 65536 ∧ firstGe (nI ends) ((j : Int) + 1) < ends.length) :
    Calls Tryz.prog 128 #[.pointer (some ⟨g, 0, none⟩), sv] w fun e w' => ∃ gc, e = .returned (.slice (some ⟨gc, 0, none⟩) list.length list.length) ∧ w.heap.size ≤ gc ∧
      Row w' gc 3 (ints (cntsL (runOf ends) (chosenN sel nulls (64 * sel.length)) list.length)) ∧ Below w.heap.size w w' := by
  obtain ⟨s, hsz⟩ : ∃ s, w.heap.size = s := ⟨_, rfl⟩
  have hgs : g < s := by obtain ⟨_, _, _, _, _, h1, _⟩ := hk.ex; rw [← hsz]; exact h1.lt
  have HCK := hid (fun (w1 : World) (hb : Below w.heap.size w w1) => hk.mono hb)
  have HFI : Hid (∀ (j a : Nat), a < ends.length → (a < runOf ends j ↔ ends.getD a 0 ≤ j)) := hid (fun j a ha => by
    have h1 := firstGe_iff hup (t := (j : Int) + 1) (a := a) (by rw [nI_length]; exact ha)
    rw [nI_get ends a ha] at h1
    unfold runOf
    rw [h1]; omega)
  have HMO := hid (runOf_mono ends hup)
  have HAS := hid (chosenN_asc sel nulls (64 * sel.length))
  have HJA := hid hja
  have HGV := hid (fun (w0 : World) (hb : Below w.heap.size w w0) (U : Nat → Prop) (hU : ∀ k, k < w.heap.size → U k) (sb cb : Nat) (h1 : sb < w0.heap.size) (h2 : cb < w0.heap.size) (h3 : U sb) (h4 : U cb) (h5 : w0.cell? ⟨sb, 0, none⟩ = some sv) (h6 : w0.cell? ⟨cb, 0, none⟩ = some (.pointer (some ⟨g, 0, none⟩))) =>
    chosen_gives_I w g rows codec wd nulls count list ends base lanes hk hbm hnv hrr sv sel hs hsv hsl hsr hT w0 hb U hU sb cb h1 h2 h3 h4 h5 h6)
  obtain ⟨nu, lv, ev, nv, bef, q1, q2, q3, q4, q5, q6⟩ := hk.ex
  have HQ1 := hid q1; have HQE := hid q4
  obtain ⟨Ae, ce, rfl, _, _, _⟩ := q4.form
  obtain ⟨Al, cl, rfl, _, _, _⟩ := q3.form
  obtain ⟨As, cs, rfl, _, _, _⟩ := hs.form
  have hjl := chosenN_len sel nulls (64 * sel.length)
  have hjl2 : (chosenN sel nulls (64 * sel.length)).length ≤ 70000 := by omega
  clear hk hbm hnv hs hsv hsl hsr hT hja hup q1 q2 q3 q4 q5 q6 hjl
  generalize chosenN sel nulls (64 * sel.length) = js at *
  generalize sel.length = sn at *
  obtain ⟨m, hm⟩ : ∃ m, list.length = m := ⟨_, rfl⟩
  have HM := hid hm
  rw [hm] at hel
  have HEL := hid hel
  simp only [hm] at hll HQ1 ⊢
  rw [hel] at HJA HFI HQ1 HQE
  rw [hsz] at HCK HGV ⊢
  clear hel
  have HSZ := hid hsz
  clear hm
  have HQC : Hid (∀ w1 : World, Below s w w1 → w1.cell? ⟨g, 6, none⟩ = some (.slice Ae m ce)) := hid (fun w1 hb => by rw [(HQ1.out.mono (by rw [hsz]; exact hb)).cell]; rfl)
  have HQD : Hid (∀ w1 : World, Below s w w1 → Rd w1 (.slice Ae m ce) m 1 (nIs ends)) := hid (fun w1 hb => HQE.out.mono (by rw [hsz]; exact hb))
  have HQB : Hid (∀ w1 : World, Below s w w1 → w1.cell? ⟨g, 5, none⟩ = some (.slice Al m cl)) := hid (fun w1 hb => by rw [(HQ1.out.mono (by rw [hsz]; exact hb)).cell]; rfl)
  refine (callsIn_wide (n := 9)).1 ?_
  refine callsIn_of_wp_marks Tryz.func128 rfl trivial ?_ rfl
  simp only [Tryz.ntmps128, List.size_toArray, List.length_cons, List.length_nil, Nat.reduceAdd, Nat.reduceSub, Array.replicate_succ, Array.replicate_zero, List.push_toArray, List.append_toArray, List.nil_append, List.cons_append]
  refine wpIn_wide.2 ?_
  have hb1 : Below s w (w.alloc (.cells #[.pointer (some ⟨g, 0, none⟩)] 115)) := by rw [← hsz]; exact (brefl w).alloc (Nat.le_refl _) _
  have c5 := HQB.out _ hb1
  have hr1 : Row (w.alloc (.cells #[.pointer (some ⟨g, 0, none⟩)] 115)) s 115 [.pointer (some ⟨g, 0, none⟩)] := by rw [← hsz]; unfold Row; rw [heap_alloc_new]
  have hs1 : (w.alloc (.cells #[.pointer (some ⟨g, 0, none⟩)] 115)).heap.size = s + 1 := by simp [hsz]
  have HB1 := hid hb1; have HR1 := hid hr1; have HS1 := hid hs1
  clear hb1 hr1 hs1
  go_upto_region 1 with fail
  generalize w.alloc (.cells #[.pointer (some ⟨g, 0, none⟩)] 115) = w1 at *
  have d0 := HR1.out.cell 0
  simp only [List.getElem?_cons_zero] at d0
  go_wp2
  refine upon_make 3 (.int .i64 0) 8 Tryz.underlying92 Tryz.infoI64 rfl m (by omega) (by omega) (by omega) (by unfold maxLen; omega) ?_
  intro w2 hrow hb2 hsz2
  rw [HS1.out] at hrow hsz2 ⊢
  have HROW := hid hrow
  have hs1 := HS1.out
  have HB2 := hid (HB1.out.trans (hb2.mono (by omega)))
  have HR2 := hid (HR1.out.below hb2 (by omega))
  clear hrow hb2 d0 HR1 HB1 c5
  go_upto_region 2 with fail
  have HA3 := hid ((brefl w2).alloc (Nat.le_refl _) (.cells #[.slice (some ⟨s + 1, 0, none⟩) m m] 92))
  have HC3 : Hid (Row (w2.alloc (.cells #[.slice (some ⟨s + 1, 0, none⟩) m m] 92)) (s + 1 + 1) 92 [.slice (some ⟨s + 1, 0, none⟩) m m]) := hid (by rw [← hsz2]; unfold Row; rw [heap_alloc_new])
  have hs3 : (w2.alloc (.cells #[.slice (some ⟨s + 1, 0, none⟩) m m] 92)).heap.size = s + 1 + 1 + 1 := by simp [hsz2]
  have HS3 := hid hs3
  have HR3 := hid (HR2.out.mono HA3.out)
  have HN3 := hid (HROW.out.mono HA3.out)
  have HB3 := hid (HB2.out.trans (HA3.out.mono (by omega)))
  clear HR2 HROW HB2 HA3
  generalize w2.alloc (.cells #[.slice (some ⟨s + 1, 0, none⟩) m m] 92) = w3 at *
  clear hsz2
  go_upto_region 3 with fail
  have HA5 := hid ((brefl w3).alloc (Nat.le_refl _) (.cells #[.int .i64 0] 3))
  have HU5 : Hid (Row (w3.alloc (.cells #[.int .i64 0] 3)) (s + 1 + 1 + 1) 3 [.int .i64 0]) := hid (by rw [← hs3]; unfold Row; rw [heap_alloc_new])
  have hs5 : (w3.alloc (.cells #[.int .i64 0] 3)).heap.size = s + 1 + 1 + 1 + 1 := by simp [hs3]
  have HS5 := hid hs5
  have HR5 := hid (HR3.out.mono HA5.out)
  have HN5 := hid (HN3.out.mono HA5.out)
  have HC5 := hid (HC3.out.mono HA5.out)
  have HB5 := hid (HB3.out.trans (HA5.out.mono (by omega)))
  clear HR3 HN3 HC3 HB3 HA5 hs5 HS3 hs3
  generalize w3.alloc (.cells #[.int .i64 0] 3) = w5 at *
  have d0 := HR5.out.cell 0
  simp only [List.getElem?_cons_zero] at d0
  have HCO := hid (chosen_I w5 g As sn cs)
  have HA4 := hid ((((brefl w5).alloc (Nat.le_refl _) (.cells #[.pointer (some ⟨g, 0, none⟩)] 115))).alloc (by simp) (.cells #[.slice As sn cs] 28))
  have HZ4 : Hid (((w5.alloc (.cells #[.pointer (some ⟨g, 0, none⟩)] 115)).alloc (.cells #[.slice As sn cs] 28)).heap.size = s + 6) := hid (by have := HS5.out; simp; omega)
  have HP4 : Hid (((w5.alloc (.cells #[.pointer (some ⟨g, 0, none⟩)] 115)).alloc (.cells #[.slice As sn cs] 28)).cell? ⟨s + 1 + 1 + 1 + 1, 0, none⟩ = some (.pointer (some ⟨g, 0, none⟩))) := hid (by rw [← HS5.out]; simp)
  have HQ4 : Hid (((w5.alloc (.cells #[.pointer (some ⟨g, 0, none⟩)] 115)).alloc (.cells #[.slice As sn cs] 28)).cell? ⟨s + 1 + 1 + 1 + 1 + 1, 0, none⟩ = some (.slice As sn cs)) := hid (by rw [← HS5.out]; simp)
  rw [HS5.out] at HCO
  go_wp2_with (go_at_call 129; refine HCO.out.mono ?_; rintro e w4 ⟨rfl, hw4⟩; rw [← hw4] at HA4 HZ4 HP4 HQ4; clear hw4)
  have HR4 := hid (HR5.out.mono HA4.out)
  have HN4 := hid (HN5.out.mono HA4.out)
  have HC4 := hid (HC5.out.mono HA4.out)
  have HU4 := hid (HU5.out.mono HA4.out)
  have HB4 := hid (HB5.out.trans (HA4.out.mono (by have := HS5.out; omega)))
  clear HR5 HN5 HC5 HU5 HB5 HA4 HCO HS5 HS1 d0
  have hz4 := HZ4.out
  refine wpIn_wide.1 (range_all (n := 9) rfl (gf := 170) (lb := #[.pointer (some ⟨s + 1 + 1 + 1 + 1 + 1, 0, none⟩), .pointer (some ⟨s + 1 + 1 + 1 + 1, 0, none⟩)]) rfl (enters_of Tryz.func170 (by kernel_rfl) rfl)
    (HGV.out w4 HB4.out (fun k => k < s ∨ k = s + 4 ∨ k = s + 5) (fun k hk => .inl hk) _ _ (by omega) (by omega) (.inr (.inr rfl)) (.inr (.inl rfl)) HQ4.out HP4.out) (brefl w4) (fun k hk => by omega) (fun _ => rfl)
    (fun pre W => Row W s 115 [.pointer (some ⟨g, 0, none⟩)] ∧ Row W (s + 1) 3 (ints (cntsL (runOf ends) pre m)) ∧ Row W (s + 1 + 1) 92 [.slice (some ⟨s + 1, 0, none⟩) m m] ∧ Row W (s + 1 + 1 + 1) 3 [.int .i64 (runF (runOf ends) pre : Nat)] ∧ Below s w W)
    (fun pre A B h hb => ⟨h.1.below hb (by omega), h.2.1.below hb (by omega), h.2.2.1.below hb (by omega), h.2.2.2.1.below hb (by omega), h.2.2.2.2.trans (hb.mono (by omega))⟩)
    ⟨HR4.out, by rw [cntsL_nil]; exact HN4.out, HC4.out, HU4.out, HB4.out⟩
    (fun x => { tmps := #[.pointer (some ⟨g, 0, none⟩), .slice As sn cs, .pointer (some ⟨s, 0, none⟩), undef, .slice none 0 0, .pointer (some ⟨s + 1 + 1, 0, none⟩), .pointer (some ⟨s + 1 + 1 + 1, 0, none⟩), .int .i64 (x : Int), .pointer (some ⟨g, 0, none⟩), .pointer (some ⟨g, 0, none⟩), .pointer (some ⟨g, 5, none⟩), .slice Al m cl, .int .i64 (m : Int), .slice (some ⟨s + 1, 0, none⟩) m m, .pointer (some ⟨g, 0, none⟩), .slice As sn cs, .func (.func 170) #[] #[.pointer (some ⟨s + 1 + 1 + 1 + 1 + 1, 0, none⟩), .pointer (some ⟨s + 1 + 1 + 1 + 1, 0, none⟩)], .int .i64 (x : Int), undef, undef, undef, undef, undef, undef, undef, undef, undef, undef, undef, undef, undef, undef, undef, undef, undef, undef], defers := [] }) ?assign ?body ?done)
  case assign =>
    intro l x W K hK
    gi_wp2
    exact hK
  case body =>
    rintro l pre x W hpre ⟨r1, r2, r3, r4, hbW⟩ hsW hmW
    obtain ⟨hmem, hpl⟩ := mem_prefix hpre
    obtain ⟨hx1, hx2⟩ := HJA.out x hmem
    have hle := runF_le (runOf ends) HMO.out x pre (asc_prefix HAS.out hpre)
    have HFX := hid (HFI.out x)
    have hx3 : runOf ends x < m := hx2
    have HSN := hid (cntsL_snoc (runOf ends) pre m x hx3)
    have HRS := hid (runF_snoc (runOf ends) pre x)
    have hcl := cntOfF_le (runOf ends) pre (runOf ends x)
    have y1 : ∀ w9 : World, Row w9 (s + 1) 3 (ints (cntsL (runOf ends) pre m)) → w9.cell? ⟨s + 1, runOf ends x, none⟩ = some (.int .i64 (cntOfF (runOf ends) pre (runOf ends x) : Nat)) := fun w9 h9 => by
      have := h9.cell (runOf ends x)
      rwa [ints_cell _ _ (by rw [cntsL_len]; exact hx3), cntsL_get _ _ _ _ hx3] at this
    have HY1 := hid y1
    have HR1 := hid r1; have HR2 := hid r2; have HR3 := hid r3; have HR4' := hid r4; have HBW := hid hbW
    generalize cntOfF (runOf ends) pre (runOf ends x) = cn at *
    generalize hlx : runOf ends x = fx at *
    generalize runF (runOf ends) pre = r0 at *
    have hcn : cn ≤ 70000 := by omega
    have hmx : Tryz.prog.follows .mixedOrders = true := by kernel_rfl
    clear r1 r2 r3 r4 hbW hlx y1 hx2
    gi_wp2
    gi_loopw [] (fun wr => ∃ r : Nat, r ≤ fx ∧ Hid (Row wr (s + 1 + 1 + 1) 3 [.int .i64 (r : Int)]) ∧ Hid (Row wr s 115 [.pointer (some ⟨g, 0, none⟩)]) ∧ Hid (Row wr (s + 1) 3 (ints (cntsL (runOf ends) pre m))) ∧ Hid (Row wr (s + 1 + 1) 92 [.slice (some ⟨s + 1, 0, none⟩) m m]) ∧ Hid (Below s w wr) ∧ Hid (Mid (fun k => k < s ∨ k = s + 4 ∨ k = s + 5) w4.heap.size W wr)) (fun wr => fx - (match wr.cell? ⟨s + 1 + 1 + 1, 0, none⟩ with | some v => (intOf v).toNat | none => 0))
    case atStart => exact ⟨r0, hle, HR4', HR1, HR2, HR3, HBW, hid (Mid.refl _ _ _)⟩
    case round =>
      obtain ⟨r, hr, HU, HA, HN, HC, HB, HM⟩ := hrel
      have u0 := HU.out.cell 0
      have uf := HU.out.frozen 0
      have a0 := HA.out.cell 0
      have n0 := HC.out.cell 0
      simp only [List.getElem?_cons_zero] at u0 a0 n0
      have e6 := HQC.out wr HB.out
      obtain ⟨be, oe, rfl, hse⟩ := (HQD.out wr HB.out).at (by omega)
      have hrm : r < m := by omega
      have z1 := hse r _ (i64s_get (nI ends) r (by rw [nI_length, HEL.out]; exact hrm))
      rw [nI_get ends r (by rw [HEL.out]; exact hrm)] at z1
      have hfx := HFX.out r hrm
      have hri : (r : Int) < (m : Int) := by omega
      clear hse
      generalize ends.getD r 0 = er at *
      by_cases hrx : r < fx
      · have hle2 : (er : Int) ≤ (x : Int) := by have := hfx.1 hrx; omega
        have HU2 : Hid (Row (wr.setCell ⟨s + 1 + 1 + 1, 0, none⟩ (.int .i64 ((r : Int) + 1))) (s + 1 + 1 + 1) 3 [.int .i64 ((r + 1 : Nat) : Int)]) := hid (HU.out.set 0 _)
        have HC2 : Hid ((wr.setCell ⟨s + 1 + 1 + 1, 0, none⟩ (.int .i64 ((r : Int) + 1))).cell? ⟨s + 1 + 1 + 1, 0, none⟩ = some (.int .i64 ((r + 1 : Nat) : Int))) := hid (HU2.out.cell 0)
        have HU0 := hid u0
        clear hfx
        gi_wp2
        gi_region
        all_goals gi_wp2
        all_goals go_roundw
        all_goals first
          | exact ⟨r + 1, by omega, hid HU2.out, hid (row_set_other HA.out (by omega)), hid (row_set_other HN.out (by omega)), hid (row_set_other HC.out (by omega)), hid (Go.below_drewN (below_set HB.out _ _ _ (by omega)) 1), hid ((HM.out.trans (Mid.set wr _ _ _ (by omega) (by omega))).trans (Mid.drew _ 1))⟩
          | (show fx - (match (wr.setCell ⟨s + 1 + 1 + 1, 0, none⟩ (.int .i64 ((r : Int) + 1))).cell? ⟨s + 1 + 1 + 1, 0, none⟩ with | some v => (intOf v).toNat | none => 0) < fx - (match wr.cell? ⟨s + 1 + 1 + 1, 0, none⟩ with | some v => (intOf v).toNat | none => 0)
             rw [HC2.out, HU0.out]; simp [intOf]; omega)
      · obtain rfl : r = fx := by omega
        have hle2 : ¬ (er : Int) ≤ (x : Int) := by have := mt hfx.2 hrx; omega
        have y1 := HY1.out wr HN.out
        have yf := HN.out.frozen r
        clear hfx
        have HN2 : Hid (Row (wr.setCell ⟨s + 1, r, none⟩ (.int .i64 ((cn : Int) + 1))) (s + 1) 3 (ints (cntsL (runOf ends) (pre ++ [x]) m))) := hid (by rw [HSN.out]; exact HN.out.set r _)
        have HMF : Hid (Mid (fun k => k < s ∨ k = s + 4 ∨ k = s + 5) (s + 6) W (wr.setCell ⟨s + 1, r, none⟩ (.int .i64 ((cn : Int) + 1))).drew) := hid (by
          have h9 := (HM.out.trans (Mid.set wr (s + 1) r (.int .i64 ((cn : Int) + 1)) (by omega) (by omega))).trans (Mid.drew _ 1)
          rw [hz4] at h9; exact h9)
        have HU2 : Hid (Row (wr.setCell ⟨s + 1, r, none⟩ (.int .i64 ((cn : Int) + 1))) (s + 1 + 1 + 1) 3 [.int .i64 (runF (runOf ends) (pre ++ [x]) : Nat)]) := hid (by rw [HRS.out]; exact row_set_other HU.out (by omega))
        gi_wp2
        gi_region
        all_goals gi_wp2
        all_goals exact ⟨⟨row_set_other HA.out (by omega), HN2.out, row_set_other HC.out (by omega), HU2.out, Go.below_drewN (below_set HB.out _ _ _ (by omega)) 1⟩, HMF.out⟩
  case done =>
    rintro W ⟨r1, r2, r3, r4, hbW⟩ hmW hK
    have y2 := r3.cell 0
    simp only [List.getElem?_cons_zero] at y2
    have HR2 := hid r2; have HBW := hid hbW; have HKK := hid hK
    go_wp2_with fail
    have hput : Below w4.heap.size W (W.putObj w4.heap.size (.deferred none)) := put_below HKK.out (Nat.le_refl _)
    refine ⟨by simp, .inl ⟨_, _, rfl, run_takeDeferred HKK.out, ?_⟩⟩
    refine ⟨.slice (some ⟨s + 1, 0, none⟩) m m, ?_, _, rfl, by omega, HR2.out.below hput (by omega), HBW.out.trans (hput.mono (by omega))⟩
    simp [results, Tryz.results128, go_sem]
end Go.Proofs.YthonbfojpbfmgaaGreatDoor
