/- Package kernel: hits out of lanes (integers). -/
import Derived.Test.YthonbfojpbfmgaaGreatDoorLawfoldsplitB23
import Derived.Test.YthonbfojpbfmgaaGreatDoorLawfoldsplitB22
import Derived.Deep.QuietTactic
import Derived.Test.YthonbfojpbfmgaaGreatDoorLawfoldsplitB10
set_option linter.unusedVariables false
set_option linter.unusedSimpArgs false
set_option linter.unnecessarySimpa false
set_option maxRecDepth 100000
namespace Go.Proofs.YthonbfojpbfmgaaGreatDoor
open Go.RowKit

/-- a chunk's lanes: what is known of them -/
structure LnD_I (codec wd count : Nat) (list : List Int) (base : Int) (lanes : List Nat) : Prop where
  cd : codec = 2 ∨ codec = 4 ∨ codec = 5
  cd2 : cdL_I codec
  ok : okPack wd count lanes = true
  lv : ∀ x ∈ lanes, x < 18446744073709551616
  lm : lanes.length ≤ 16777216
  ll : list.length ≤ 1048576
  cn : count ≤ 65536
  up : codec = 2 → ∀ a b, a < b → b < list.length → list.getD a 0 < list.getD b 0
  inl : codec = 2 → ∀ j, j < count → L.laneOf wd lanes j < list.length
  b : okI base
  rm : codec ≠ 2 → ∀ j, j < count → base + (L.laneOf wd lanes j : Int) ≤ 9223372036854775807
theorem firstGe_iff {es : List Int} {t : Int} (hup : ∀ a b, a < b → b < es.length → es.getD a 0 < es.getD b 0) {a : Nat} (ha : a < es.length) : a < firstGe es t ↔ es.getD a 0 < t := by
  have hg : ∀ (i : Nat) (h : i < es.length), es.getD i 0 = es[i] := fun i h => by simp [List.getD, List.getElem?_eq_getElem h]
  constructor
  · intro h
    have h1 := List.not_of_lt_findIdx (p := fun e => decide (t ≤ e)) (xs := es) h
    rw [hg a ha]
    simp only [decide_eq_true_eq, Int.not_le, Bool.not_eq_true, decide_eq_false_iff_not] at h1
    omega
  · intro h
    rcases Nat.lt_or_ge a (firstGe es t) with h1 | h1
    · exact h1
    · exfalso
      have hr : firstGe es t < es.length := by omega
      have h2 := List.findIdx_getElem (p := fun e => decide (t ≤ e)) (xs := es) (w := hr)
      simp only [decide_eq_true_eq] at h2
      have h3 : t ≤ es.getD (firstGe es t) 0 := by rw [hg _ hr]; exact h2
      by_cases he : a = firstGe es t
      · rw [he] at h; omega
      · have := hup _ _ (show firstGe es t < a by omega) ha
        omega
end Go.Proofs.YthonbfojpbfmgaaGreatDoor

/- The run in which a value stands. -/
set_option linter.unusedVariables false
set_option linter.unusedSimpArgs false
set_option linter.unnecessarySimpa false
set_option maxRecDepth 100000
namespace Go.Proofs.YthonbfojpbfmgaaGreatDoor
open Go.RowKit

/-- the run in which value number j stands -/
def runOf (ends : List Nat) (j : Nat) : Nat := firstGe (nI ends) ((j : Int) + 1)
theorem runOf_mono (ends : List Nat) (hup : ∀ a b, a < b → b < (nI ends).length → (nI ends).getD a 0 < (nI ends).getD b 0) (a b : Nat) (h : a ≤ b) : runOf ends a ≤ runOf ends b := by
  unfold runOf
  rcases Nat.lt_or_ge (firstGe (nI ends) ((b : Int) + 1)) (firstGe (nI ends) ((a : Int) + 1)) with hlt | hge
  · exfalso
    have hbl : firstGe (nI ends) ((b : Int) + 1) < (nI ends).length := Nat.lt_of_lt_of_le hlt (firstGe_le _ _)
    have h1 := (firstGe_iff hup hbl).1 hlt
    have h2 : ¬ (nI ends).getD (firstGe (nI ends) ((b : Int) + 1)) 0 < (b : Int) + 1 := fun hc => Nat.lt_irrefl _ ((firstGe_iff hup hbl).2 hc)
    omega
  · exact hge
theorem round_inRound {F : Fence} {n : Nat} {P : Program} {l : Nat} {f : FuncId} {tmps : Array Value} {assign body : Code} {w : World} {R : Ending → World → Prop} (l2 : Nat) (h : RoundIn F n P l f tmps assign body w R) : RoundIn (F.inRound l2) n P l f tmps assign body w R := h
theorem Mid.rd {U : Nat → Prop} {b : Nat} {w w' : World} (h : Mid U b w w') {g n : Nat} {e : TypeId} {cs : List Value} (hr : Row w g e cs) (hb : b ≤ g) (hn : cs.length = n) (hm : n ≤ maxLen) : Rd w' (.slice (some ⟨g, 0, none⟩) n n) n 1 cs := (h.row hr (.inr hb)).rd' hn hm
end Go.Proofs.YthonbfojpbfmgaaGreatDoor

/- Package chunk: tallyRuns (integers). -/
set_option linter.unusedVariables false
set_option linter.unusedSimpArgs false
set_option linter.unnecessarySimpa false
set_option maxRecDepth 100000
namespace Go.Proofs.YthonbfojpbfmgaaGreatDoor
open Go.RowKit Go.Shelf
attribute [local go_sem] Oper.semAt_some

set_option maxHeartbeats 8000000 in
theorem tallyRuns_I (w : World) (g rows codec wd : Nat) (nulls : List Nat) (count : Int) (list : List Int) (ends : List Nat) (base : Int) (lanes : List Nat) (hk : Ck_I w g rows codec wd nulls count list ends base lanes) (hbm : nulls.length = (rows + 63) / 64) (hnv : ∀ x ∈ nulls, x < 18446744073709551616) (hrr : rows ≤ 65536)
    (sv : Value) (sel : List Nat) (hs : Rd w sv sel.length 1 (u64s sel)) (hsv : ∀ x ∈ sel, x < 18446744073709551616) (hsl : sel.length = (rows + 63) / 64) (hsr : ∀ r, bitOf sel r = true → r < rows) (hT : Tab w)
    (hll : list.length ≤ 16777216) (hup : ∀ a b, a < b → b < (nI ends).length → (nI ends).getD a 0 < (nI ends).getD b 0) (hel : ends.length = list.length) (hja : ∀ j ∈ chosenN sel nulls (64 * sel.length), j ≤ 65536 ∧ firstGe (nI ends) ((j : Int) + 1) < ends.length) :
    Calls Tryz.prog 128 #[.pointer (some ⟨g, 0, none⟩), sv] w fun e w' => ∃ gc, e = .returned (.slice (some ⟨gc, 0, none⟩) list.length list.length) ∧ w.heap.size ≤ gc ∧
      Row w' gc 3 (ints (cntsL (runOf ends) (chosenN sel nulls (64 * sel.length)) list.length)) ∧ Below w.heap.size w w' := by
  obtain ⟨s, hsz⟩ : ∃ s, w.heap.size = s := ⟨_, rfl⟩
  have hgs : g < s := by obtain ⟨_, _, _, _, _, h1, _⟩ := hk.ex; rw [← hsz]; exact h1.lt
  have HCK := hid (fun (w1 : World) (hb : Below w.heap.size w w1) => hk.mono hb)
  have HFI : Hid (∀ (j a : Nat), a < ends.length → (a < runOf ends j ↔ ends.getD a 0 ≤ j)) := hid (fun j a ha => by
    have h1 := firstGe_iff hup (t := (j : Int) + 1) (a := a) (by rw [nI_length]; exact ha)
    rw [nI_get ends a ha] at h1
    unfold runOf
    rw [h1]; omega)
  have HMO := hid (runOf_mono ends hup)
  have HAS := hid (chosenN_asc sel nulls (64 * sel.length))
  have HJA := hid hja
  have HGV := hid (fun (w0 : World) (hb : Below w.heap.size w w0) (U : Nat → Prop) (hU : ∀ k, k < w.heap.size → U k) (sb cb : Nat) (h1 : sb < w0.heap.size) (h2 : cb < w0.heap.size) (h3 : U sb) (h4 : U cb) (h5 : w0.cell? ⟨sb, 0, none⟩ = some sv) (h6 : w0.cell? ⟨cb, 0, none⟩ = some (.pointer (some ⟨g, 0, none⟩))) =>
    chosen_gives_I w g rows codec wd nulls count list ends base lanes hk hbm hnv hrr sv sel hs hsv hsl hsr hT w0 hb U hU sb cb h1 h2 h3 h4 h5 h6)
  obtain ⟨nu, lv, ev, nv, bef, q1, q2, q3, q4, q5, q6⟩ := hk.ex
  have HQ1 := hid q1; have HQE := hid q4
  obtain ⟨Ae, ce, rfl, _, _, _⟩ := q4.form
  obtain ⟨Al, cl, rfl, _, _, _⟩ := q3.form
  obtain ⟨As, cs, rfl, _, _, _⟩ := hs.form
  have hjl := chosenN_len sel nulls (64 * sel.length)
  have hjl2 : (chosenN sel nulls (64 * sel.length)).length ≤ 70000 := by omega
  clear hk hbm hnv hs hsv hsl hsr hT hja hup q1 q2 q3 q4 q5 q6 hjl
  generalize chosenN sel nulls (64 * sel.length) = js at *
  generalize sel.length = sn at *
  obtain ⟨m, hm⟩ : ∃ m, list.length = m := ⟨_, rfl⟩
  have HM := hid hm
  rw [hm] at hel
  have HEL := hid hel
  simp only [hm] at hll HQ1 ⊢
  rw [hel] at HJA HFI HQ1 HQE
  rw [hsz] at HCK HGV ⊢
  clear hel
  have HSZ := hid hsz
  clear hm
  have HQC : Hid (∀ w1 : World, Below s w w1 → w1.cell? ⟨g, 6, none⟩ = some (.slice Ae m ce)) := hid (fun w1 hb => by rw [(HQ1.out.mono (by rw [hsz]; exact hb)).cell]; rfl)
  have HQD : Hid (∀ w1 : World, Below s w w1 → Rd w1 (.slice Ae m ce) m 1 (nIs ends)) := hid (fun w1 hb => HQE.out.mono (by rw [hsz]; exact hb))
  have HQB : Hid (∀ w1 : World, Below s w w1 → w1.cell? ⟨g, 5, none⟩ = some (.slice Al m cl)) := hid (fun w1 hb => by rw [(HQ1.out.mono (by rw [hsz]; exact hb)).cell]; rfl)
  refine (callsIn_wide (n := 9)).1 ?_
  refine callsIn_of_wp_marks Tryz.func128 rfl trivial ?_ rfl
  simp only [Tryz.ntmps128, List.size_toArray, List.length_cons, List.length_nil, Nat.reduceAdd, Nat.reduceSub, Array.replicate_succ, Array.replicate_zero, List.push_toArray, List.append_toArray, List.nil_append, List.cons_append]
  refine wpIn_wide.2 ?_
  have hb1 : Below s w (w.alloc (.cells #[.pointer (some ⟨g, 0, none⟩)] 115)) := by rw [← hsz]; exact (brefl w).alloc (Nat.le_refl _) _
  have c5 := HQB.out _ hb1
  have hr1 : Row (w.alloc (.cells #[.pointer (some ⟨g, 0, none⟩)] 115)) s 115 [.pointer (some ⟨g, 0, none⟩)] := by rw [← hsz]; unfold Row; rw [heap_alloc_new]
  have hs1 : (w.alloc (.cells #[.pointer (some ⟨g, 0, none⟩)] 115)).heap.size = s + 1 := by simp [hsz]
  have HB1 := hid hb1; have HR1 := hid hr1; have HS1 := hid hs1
  clear hb1 hr1 hs1
  go_upto_region 1 with fail
  generalize w.alloc (.cells #[.pointer (some ⟨g, 0, none⟩)] 115) = w1 at *
  have d0 := HR1.out.cell 0
  simp only [List.getElem?_cons_zero] at d0
  go_wp2
  refine upon_make 3 (.int .i64 0) 8 Tryz.underlying92 Tryz.infoI64 rfl m (by omega) (by omega) (by omega) (by unfold maxLen; omega) ?_
  intro w2 hrow hb2 hsz2
  rw [HS1.out] at hrow hsz2 ⊢
  have HROW := hid hrow
  have hs1 := HS1.out
  have HB2 := hid (HB1.out.trans (hb2.mono (by omega)))
  have HR2 := hid (HR1.out.below hb2 (by omega))
  clear hrow hb2 d0 HR1 HB1 c5
  go_upto_region 2 with fail
  have HA3 := hid ((brefl w2).alloc (Nat.le_refl _) (.cells #[.slice (some ⟨s + 1, 0, none⟩) m m] 92))
  have HC3 : Hid (Row (w2.alloc (.cells #[.slice (some ⟨s + 1, 0, none⟩) m m] 92)) (s + 1 + 1) 92 [.slice (some ⟨s + 1, 0, none⟩) m m]) := hid (by rw [← hsz2]; unfold Row; rw [heap_alloc_new])
  have hs3 : (w2.alloc (.cells #[.slice (some ⟨s + 1, 0, none⟩) m m] 92)).heap.size = s + 1 + 1 + 1 := by simp [hsz2]
  have HS3 := hid hs3
  have HR3 := hid (HR2.out.mono HA3.out)
  have HN3 := hid (HROW.out.mono HA3.out)
  have HB3 := hid (HB2.out.trans (HA3.out.mono (by omega)))
  clear HR2 HROW HB2 HA3
  generalize w2.alloc (.cells #[.slice (some ⟨s + 1, 0, none⟩) m m] 92) = w3 at *
  clear hsz2
  go_upto_region 3 with fail
  have HA5 := hid ((brefl w3).alloc (Nat.le_refl _) (.cells #[.int .i64 0] 3))
  have HU5 : Hid (Row (w3.alloc (.cells #[.int .i64 0] 3)) (s + 1 + 1 + 1) 3 [.int .i64 0]) := hid (by rw [← hs3]; unfold Row; rw [heap_alloc_new])
  have hs5 : (w3.alloc (.cells #[.int .i64 0] 3)).heap.size = s + 1 + 1 + 1 + 1 := by simp [hs3]
  have HS5 := hid hs5
  have HR5 := hid (HR3.out.mono HA5.out)
  have HN5 := hid (HN3.out.mono HA5.out)
  have HC5 := hid (HC3.out.mono HA5.out)
  have HB5 := hid (HB3.out.trans (HA5.out.mono (by omega)))
  clear HR3 HN3 HC3 HB3 HA5 hs5 HS3 hs3
  generalize w3.alloc (.cells #[.int .i64 0] 3) = w5 at *
  have d0 := HR5.out.cell 0
  simp only [List.getElem?_cons_zero] at d0
  have HCO := hid (chosen_I w5 g As sn cs)
  have HA4 := hid ((((brefl w5).alloc (Nat.le_refl _) (.cells #[.pointer (some ⟨g, 0, none⟩)] 115))).alloc (by simp) (.cells #[.slice As sn cs] 28))
  have HZ4 : Hid (((w5.alloc (.cells #[.pointer (some ⟨g, 0, none⟩)] 115)).alloc (.cells #[.slice As sn cs] 28)).heap.size = s + 6) := hid (by have := HS5.out; simp; omega)
  have HP4 : Hid (((w5.alloc (.cells #[.pointer (some ⟨g, 0, none⟩)] 115)).alloc (.cells #[.slice As sn cs] 28)).cell? ⟨s + 1 + 1 + 1 + 1, 0, none⟩ = some (.pointer (some ⟨g, 0, none⟩))) := hid (by rw [← HS5.out]; simp)
  have HQ4 : Hid (((w5.alloc (.cells #[.pointer (some ⟨g, 0, none⟩)] 115)).alloc (.cells #[.slice As sn cs] 28)).cell? ⟨s + 1 + 1 + 1 + 1 + 1, 0, none⟩ = some (.slice As sn cs)) := hid (by rw [← HS5.out]; simp)
  rw [HS5.out] at HCO
  go_wp2_with (go_at_call 129; refine HCO.out.mono ?_; rintro e w4 ⟨rfl, hw4⟩; rw [← hw4] at HA4 HZ4 HP4 HQ4; clear hw4)
  have HR4 := hid (HR5.out.mono HA4.out)
  have HN4 := hid (HN5.out.mono HA4.out)
  have HC4 := hid (HC5.out.mono HA4.out)
  have HU4 := hid (HU5.out.mono HA4.out)
  have HB4 := hid (HB5.out.trans (HA4.out.mono (by have := HS5.out; omega)))
  clear HR5 HN5 HC5 HU5 HB5 HA4 HCO HS5 HS1 d0
  have hz4 := HZ4.out
  refine wpIn_wide.1 (range_all (n := 9) rfl (gf := 170) (lb := #[.pointer (some ⟨s + 1 + 1 + 1 + 1 + 1, 0, none⟩), .pointer (some ⟨s + 1 + 1 + 1 + 1, 0, none⟩)]) rfl (enters_of Tryz.func170 (by kernel_rfl) rfl)
    (HGV.out w4 HB4.out (fun k => k < s ∨ k = s + 4 ∨ k = s + 5) (fun k hk => .inl hk) _ _ (by omega) (by omega) (.inr (.inr rfl)) (.inr (.inl rfl)) HQ4.out HP4.out) (brefl w4) (fun k hk => by omega) (fun _ => rfl)
    (fun pre W => Row W s 115 [.pointer (some ⟨g, 0, none⟩)] ∧ Row W (s + 1) 3 (ints (cntsL (runOf ends) pre m)) ∧ Row W (s + 1 + 1) 92 [.slice (some ⟨s + 1, 0, none⟩) m m] ∧ Row W (s + 1 + 1 + 1) 3 [.int .i64 (runF (runOf ends) pre : Nat)] ∧ Below s w W)
    (fun pre A B h hb => ⟨h.1.below hb (by omega), h.2.1.below hb (by omega), h.2.2.1.below hb (by omega), h.2.2.2.1.below hb (by omega), h.2.2.2.2.trans (hb.mono (by omega))⟩)
    ⟨HR4.out, by rw [cntsL_nil]; exact HN4.out, HC4.out, HU4.out, HB4.out⟩
    (fun x => { tmps := #[.pointer (some ⟨g, 0, none⟩), .slice As sn cs, .pointer (some ⟨s, 0, none⟩), undef, .slice none 0 0, .pointer (some ⟨s + 1 + 1, 0, none⟩), .pointer (some ⟨s + 1 + 1 + 1, 0, none⟩), .int .i64 (x : Int), .pointer (some ⟨g, 0, none⟩), .pointer (some ⟨g, 0, none⟩), .pointer (some ⟨g, 5, none⟩), .slice Al m cl, .int .i64 (m : Int), .slice (some ⟨s + 1, 0, none⟩) m m, .pointer (some ⟨g, 0, none⟩), .slice As sn cs, .func (.func 170) #[] #[.pointer (some ⟨s + 1 + 1 + 1 + 1 + 1, 0, none⟩), .pointer (some ⟨s + 1 + 1 + 1 + 1, 0, none⟩)], .int .i64 (x : Int), undef, undef, undef, undef, undef, undef, undef, undef, undef, undef, undef, undef, undef, undef, undef, undef, undef, undef], defers := [] }) ?assign ?body ?done)
  case assign =>
    intro l x W K hK
    gi_wp2
    exact hK
  case body =>
    rintro l pre x W hpre ⟨r1, r2, r3, r4, hbW⟩ hsW hmW
    obtain ⟨hmem, hpl⟩ := mem_prefix hpre
    obtain ⟨hx1, hx2⟩ := HJA.out x hmem
    have hle := runF_le (runOf ends) HMO.out x pre (asc_prefix HAS.out hpre)
    have HFX := hid (HFI.out x)
    have hx3 : runOf ends x < m := hx2
    have HSN := hid (cntsL_snoc (runOf ends) pre m x hx3)
    have HRS := hid (runF_snoc (runOf ends) pre x)
    have hcl := cntOfF_le (runOf ends) pre (runOf ends x)
    have y1 : ∀ w9 : World, Row w9 (s + 1) 3 (ints (cntsL (runOf ends) pre m)) → w9.cell? ⟨s + 1, runOf ends x, none⟩ = some (.int .i64 (cntOfF (runOf ends) pre (runOf ends x) : Nat)) := fun w9 h9 => by
      have := h9.cell (runOf ends x)
      rwa [ints_cell _ _ (by rw [cntsL_len]; exact hx3), cntsL_get _ _ _ _ hx3] at this
    have HY1 := hid y1
    have HR1 := hid r1; have HR2 := hid r2; have HR3 := hid r3; have HR4' := hid r4; have HBW := hid hbW
    generalize cntOfF (runOf ends) pre (runOf ends x) = cn at *
    generalize hlx : runOf ends x = fx at *
    generalize runF (runOf ends) pre = r0 at *
    have hcn : cn ≤ 70000 := by omega
    have hmx : Tryz.prog.follows .mixedOrders = true := by kernel_rfl
    clear r1 r2 r3 r4 hbW hlx y1 hx2
    gi_wp2
    gi_loopw [] (fun wr => ∃ r : Nat, r ≤ fx ∧ Hid (Row wr (s + 1 + 1 + 1) 3 [.int .i64 (r : Int)]) ∧ Hid (Row wr s 115 [.pointer (some ⟨g, 0, none⟩)]) ∧ Hid (Row wr (s + 1) 3 (ints (cntsL (runOf ends) pre m))) ∧ Hid (Row wr (s + 1 + 1) 92 [.slice (some ⟨s + 1, 0, none⟩) m m]) ∧ Hid (Below s w wr) ∧ Hid (Mid (fun k => k < s ∨ k = s + 4 ∨ k = s + 5) w4.heap.size W wr)) (fun wr => fx - (match wr.cell? ⟨s + 1 + 1 + 1, 0, none⟩ with | some v => (intOf v).toNat | none => 0))
    case atStart => exact ⟨r0, hle, HR4', HR1, HR2, HR3, HBW, hid (Mid.refl _ _ _)⟩
    case round =>
      obtain ⟨r, hr, HU, HA, HN, HC, HB, HM⟩ := hrel
      have u0 := HU.out.cell 0
      have uf := HU.out.frozen 0
      have a0 := HA.out.cell 0
      have n0 := HC.out.cell 0
      simp only [List.getElem?_cons_zero] at u0 a0 n0
      have e6 := HQC.out wr HB.out
      obtain ⟨be, oe, rfl, hse⟩ := (HQD.out wr HB.out).at (by omega)
      have hrm : r < m := by omega
      have z1 := hse r _ (i64s_get (nI ends) r (by rw [nI_length, HEL.out]; exact hrm))
      rw [nI_get ends r (by rw [HEL.out]; exact hrm)] at z1
      have hfx := HFX.out r hrm
      have hri : (r : Int) < (m : Int) := by omega
      clear hse
      generalize ends.getD r 0 = er at *
      by_cases hrx : r < fx
      · have hle2 : (er : Int) ≤ (x : Int) := by have := hfx.1 hrx; omega
        have HU2 : Hid (Row (wr.setCell ⟨s + 1 + 1 + 1, 0, none⟩ (.int .i64 ((r : Int) + 1))) (s + 1 + 1 + 1) 3 [.int .i64 ((r + 1 : Nat) : Int)]) := hid (HU.out.set 0 _)
        have HC2 : Hid ((wr.setCell ⟨s + 1 + 1 + 1, 0, none⟩ (.int .i64 ((r : Int) + 1))).cell? ⟨s + 1 + 1 + 1, 0, none⟩ = some (.int .i64 ((r + 1 : Nat) : Int))) := hid (HU2.out.cell 0)
        have HU0 := hid u0
        clear hfx
        gi_wp2
        gi_region
        all_goals gi_wp2
        all_goals go_roundw
        all_goals first
          | exact ⟨r + 1, by omega, hid HU2.out, hid (row_set_other HA.out (by omega)), hid (row_set_other HN.out (by omega)), hid (row_set_other HC.out (by omega)), hid (Go.below_drewN (below_set HB.out _ _ _ (by omega)) 1), hid ((HM.out.trans (Mid.set wr _ _ _ (by omega) (by omega))).trans (Mid.drew _ 1))⟩
          | (show fx - (match (wr.setCell ⟨s + 1 + 1 + 1, 0, none⟩ (.int .i64 ((r : Int) + 1))).cell? ⟨s + 1 + 1 + 1, 0, none⟩ with | some v => (intOf v).toNat | none => 0) < fx - (match wr.cell? ⟨s + 1 + 1 + 1, 0, none⟩ with | some v => (intOf v).toNat | none => 0)
             rw [HC2.out, HU0.out]; simp [intOf]; omega)
      · obtain rfl : r = fx := by omega
        have hle2 : ¬ (er : Int) ≤ (x : Int) := by have := mt hfx.2 hrx; omega
        have y1 := HY1.out wr HN.out
        have yf := HN.out.frozen r
        clear hfx
        have HN2 : Hid (Row (wr.setCell ⟨s + 1, r, none⟩ (.int .i64 ((cn : Int) + 1))) (s + 1) 3 (ints (cntsL (runOf ends) (pre ++ [x]) m))) := hid (by rw [HSN.out]; exact HN.out.set r _)
        have HMF : Hid (Mid (fun k => k < s ∨ k = s + 4 ∨ k = s + 5) (s + 6) W (wr.setCell ⟨s + 1, r, none⟩ (.int .i64 ((cn : Int) + 1))).drew) := hid (by
          have h9 := (HM.out.trans (Mid.set wr (s + 1) r (.int .i64 ((cn : Int) + 1)) (by omega) (by omega))).trans (Mid.drew _ 1)
          rw [hz4] at h9; exact h9)
        have HU2 : Hid (Row (wr.setCell ⟨s + 1, r, none⟩ (.int .i64 ((cn : Int) + 1))) (s + 1 + 1 + 1) 3 [.int .i64 (runF (runOf ends) (pre ++ [x]) : Nat)]) := hid (by rw [HRS.out]; exact row_set_other HU.out (by omega))
        gi_wp2
        gi_region
        all_goals gi_wp2
        all_goals exact ⟨⟨row_set_other HA.out (by omega), HN2.out, row_set_other HC.out (by omega), HU2.out, Go.below_drewN (below_set HB.out _ _ _ (by omega)) 1⟩, HMF.out⟩
  case done =>
    rintro W ⟨r1, r2, r3, r4, hbW⟩ hmW hK
    have y2 := r3.cell 0
    simp only [List.getElem?_cons_zero] at y2
    have HR2 := hid r2; have HBW := hid hbW; have HKK := hid hK
    go_wp2_with fail
    have hput : Below w4.heap.size W (W.putObj w4.heap.size (.deferred none)) := put_below HKK.out (Nat.le_refl _)
    refine ⟨by simp, .inl ⟨_, _, rfl, run_takeDeferred HKK.out, ?_⟩⟩
    refine ⟨.slice (some ⟨s + 1, 0, none⟩) m m, ?_, _, rfl, by omega, HR2.out.below hput (by omega), HBW.out.trans (hput.mono (by omega))⟩
    simp [results, Tryz.results128, go_sem]
end Go.Proofs.YthonbfojpbfmgaaGreatDoor

/- Package chunk: showTally (integers). -/
set_option linter.unusedVariables false
set_option linter.unusedSimpArgs false
set_option linter.unnecessarySimpa false
set_option maxRecDepth 100000
namespace Go.Proofs.YthonbfojpbfmgaaGreatDoor
open Go.RowKit Go.Shelf
attribute [local go_sem] Oper.semAt_some

set_option maxHeartbeats 4000000 in
theorem showTally_I (U : Nat → Prop) (b l : Nat) (J : List (Int × Nat) → World → Prop) (list : List Int) (cs : List Nat) (lv cv : Value) (n : Nat) (W : World) (hn : cs.length = n) (hll : list.length ≤ 16777216) (hcl : n ≤ list.length) (hc : ∀ k, k < n → cs.getD k 0 ≤ 1048576)
    (hlist : ∀ w9, Mid U b W w9 → Rd w9 lv list.length 1 (lstI list)) (hcs : ∀ w9, Mid U b W w9 → Rd w9 cv n 1 (ints cs))
    (hY : ∀ pre x w9, pre ++ [x] <+: shL dfI list cs n → J pre w9 → Mid U b W w9 → YieldAt Fence.wide 0 Tryz.prog l #[vI x.1, .int .i64 (x.2 : Nat)] w9 fun e W' => e = .returned (.bool true) ∧ J (pre ++ [x]) W' ∧ Mid U b w9 W') (h0 : J [] W) :
    Calls Tryz.prog 126 #[lv, cv, .func (.yield l) #[] #[]] W fun e W' => (∃ v, e = .returned v) ∧ J (shL dfI list cs n) W' ∧ Mid U b W W' := by
  have HL := hid hlist; have HC := hid hcs; have HY := hid hY; have HCN := hid hc; have HN := hid hn
  obtain ⟨A1, c1, rfl, _, _, _⟩ := (hlist W (Mid.refl _ _ _)).form
  obtain ⟨A2, c2, rfl, _, _, _⟩ := (hcs W (Mid.refl _ _ _)).form
  clear hlist hcs hY hc hn
  obtain ⟨m, hm⟩ : ∃ m, list.length = m := ⟨_, rfl⟩
  have HM := hid hm
  simp only [hm] at HL hll hcl ⊢
  clear hm
  refine (callsIn_wide (n := 9)).1 ?_
  refine callsIn_of_wp Tryz.func126 rfl trivial ?_ rfl
  simp only [Tryz.ntmps126, List.size_toArray, List.length_cons, List.length_nil, Nat.reduceAdd, Nat.reduceSub, Array.replicate_succ, Array.replicate_zero, List.push_toArray, List.append_toArray, List.nil_append, List.cons_append]
  gi_wp2
  gi_loopw [10] (fun i wr => ∃ k : Nat, k ≤ n ∧ i = .int .i64 k ∧ Hid (J (shL dfI list cs k) wr) ∧ Hid (Mid U b W wr)) (fun i _ => n - (intOf i).toNat)
  case atStart => exact ⟨0, Nat.zero_le _, rfl, hid h0, hid (Mid.refl _ _ _)⟩
  case round =>
    obtain ⟨k, hk, rfl, HJ, HMD⟩ := hrel
    by_cases hlt : k < n
    · obtain ⟨b1, o1, rfl, hs1⟩ := (HL.out wr HMD.out).at (by omega)
      obtain ⟨b2, o2, rfl, hs2⟩ := (HC.out wr HMD.out).at (by omega)
      have x1 := hs1 k _ (lstI_get list k (by rw [HM.out]; omega))
      have x2 := hs2 k _ (ints_cell cs k (by rw [HN.out]; exact hlt))
      have hcn := HCN.out k hlt
      have HSU := hid (shL_succ dfI list cs k)
      have hkm : (k : Int) < (m : Int) := by omega
      unfold vI at x1
      clear hs1 hs2
      have HYK := hid (fun (h : 0 < cs.getD k 0) => yield_any (m' := 8) (HY.out (shL dfI list cs k) (list.getD k dfI, cs.getD k 0) wr (by
        have := shL_succ dfI list cs k
        rw [if_pos h] at this
        rw [← this]; exact shL_prefix _ _ _ (by omega)) HJ.out HMD.out))
      simp only at HYK
      generalize list.getD k dfI = x at *
      generalize cs.getD k 0 = c at *
      by_cases hc0 : 0 < c
      · rw [if_pos hc0] at HSU
        obtain ⟨fn, tmps, assign, body, hy, hR⟩ := HYK.out hc0
        unfold vI at hy
        have hci : (0 : Int) < (c : Int) := by omega
        gi_wp2
        refine hR.mono ?_
        rintro e w5 ⟨rfl, hj5, hm5⟩
        have HJ5 := hid hj5; have HM5 := hid (HMD.out.trans hm5)
        clear hj5 hm5
        gi_wp2
        go_roundw
        case rel => exact ⟨k + 1, by omega, by go_num, hid (by rw [HSU.out]; exact HJ5.out), HM5⟩
        case measure => simp [intOf]; omega
      · rw [if_neg hc0] at HSU
        have hci : ¬ (0 : Int) < (c : Int) := by omega
        gi_wp2
        refine ⟨fun _ h => (by cases h), ?_⟩
        gi_wp2
        go_roundw
        case rel => exact ⟨k + 1, by omega, by go_num, hid (by rw [HSU.out]; exact HJ.out), HMD⟩
        case measure => simp [intOf]; omega
    · obtain rfl : k = n := by omega
      gi_wp2
      go_end0
      exact ⟨⟨_, rfl⟩, HJ.out, HMD.out⟩
end Go.Proofs.YthonbfojpbfmgaaGreatDoor

/- Package chunk: Tally (integers). -/
set_option linter.unusedVariables false
set_option linter.unusedSimpArgs false
set_option linter.unnecessarySimpa false
set_option maxRecDepth 100000
namespace Go.Proofs.YthonbfojpbfmgaaGreatDoor
open Go.RowKit Go.Shelf
attribute [local go_sem] Oper.semAt_some

/-- what a tally shows: the values of the chosen rows, each with how often it is shown for -/
def tallyP_I (codec wd : Nat) (list : List Int) (ends : List Nat) (base : Int) (lanes js : List Nat) : List (Int × Nat) :=
  if codec = 2 then shL dfI list (cntsL (L.laneOf wd lanes) js list.length) list.length
  else if codec = 3 then shL dfI list (cntsL (runOf ends) js list.length) list.length
  else js.map fun j => (vl_I codec wd list ends base lanes j, 1)
/-- what a chunk must have, for a tally -/
structure TlD_I (codec wd : Nat) (list : List Int) (ends : List Nat) (lanes js : List Nat) : Prop where
  ll : list.length ≤ 16777216
  el : ends.length ≤ 16777216
  lv : ∀ x ∈ lanes, x < 18446744073709551616
  w64 : wd ≤ 64
  jj : ∀ j ∈ js, j ≤ 65536 ∧ okv_I codec wd list ends lanes j
  two : codec = 2 → ∀ j ∈ js, j ≤ 65536 ∧ L.laneOf wd lanes j < list.length ∧ (0 < wd → j / (64 / wd) < lanes.length)
  three : codec = 3 → (∀ a b, a < b → b < (nI ends).length → (nI ends).getD a 0 < (nI ends).getD b 0) ∧ ends.length = list.length ∧ ∀ j ∈ js, j ≤ 65536 ∧ firstGe (nI ends) ((j : Int) + 1) < ends.length
theorem Tally_I (w : World) (g : Nat) (A : Option Addr) (n c : Nat) : Calls Tryz.prog 71 #[.pointer (some ⟨g, 0, none⟩), .slice A n c] w fun e w' =>
    e = .returned (.func (.func 125) #[] #[.pointer (some ⟨w.heap.size, 0, none⟩), .pointer (some ⟨w.heap.size + 1, 0, none⟩)]) ∧ w' = (w.alloc (.cells #[.pointer (some ⟨g, 0, none⟩)] 115)).alloc (.cells #[.slice A n c] 28) := by
  go_enter Tryz.func71, Tryz.ntmps71
  go_wp2_with fail
  go_ret
  exact ⟨rfl, rfl⟩
set_option maxHeartbeats 8000000 in
theorem tally_gives_I (wc : World) (g rows codec wd : Nat) (nulls : List Nat) (count : Int) (list : List Int) (ends : List Nat) (base : Int) (lanes : List Nat) (hk : Ck_I wc g rows codec wd nulls count list ends base lanes) (hbm : nulls.length = (rows + 63) / 64) (hnv : ∀ x ∈ nulls, x < 18446744073709551616) (hrr : rows ≤ 65536)
    (sv : Value) (sel : List Nat) (hs : Rd wc sv sel.length 1 (u64s sel)) (hsv : ∀ x ∈ sel, x < 18446744073709551616) (hsl : sel.length = (rows + 63) / 64) (hsr : ∀ r, bitOf sel r = true → r < rows) (hT : Tab wc)
    (hd : TlD_I codec wd list ends lanes (chosenN sel nulls (64 * sel.length)))
    (w0 : World) (hw : Below wc.heap.size wc w0) (U : Nat → Prop) (hU : ∀ k, k < wc.heap.size → U k) (hU0 : ∀ k, U k → k < w0.heap.size) (sb cb : Nat) (hsb : sb < w0.heap.size) (hcb : cb < w0.heap.size) (hUs : U sb) (hUc : U cb) (hcs : w0.cell? ⟨sb, 0, none⟩ = some sv) (hcc : w0.cell? ⟨cb, 0, none⟩ = some (.pointer (some ⟨g, 0, none⟩))) :
    Gives Tryz.prog 125 #[.pointer (some ⟨cb, 0, none⟩), .pointer (some ⟨sb, 0, none⟩)] (fun p : Int × Nat => #[vI p.1, .int .i64 (p.2 : Nat)]) U (tallyP_I codec wd list ends base lanes (chosenN sel nulls (64 * sel.length))) w0 := by
  intro l J W hW hJ hY h0
  obtain ⟨s, hsz⟩ : ∃ s, W.heap.size = s := ⟨_, rfl⟩
  have hws : w0.heap.size ≤ s := by rw [← hsz]; exact hW.size
  have hcw : wc.heap.size ≤ w0.heap.size := hw.size
  have hbW : Below wc.heap.size wc W := hw.trans (hW.mono hw.size)
  -- what is known of a world between two rounds
  have HCH := hid (fun (w1 : World) (hm : Mid U W.heap.size W w1) => (show Below wc.heap.size wc w1 from hbW.trans (hm.below (by omega) hU)))
  have HCB := hid (fun (w1 : World) (hm : Mid U W.heap.size W w1) => (show w1.cell? ⟨cb, 0, none⟩ = some (.pointer (some ⟨g, 0, none⟩)) from by
    rw [cell_at (hm.keep cb (Nat.lt_of_lt_of_le hcb hW.size) (.inl hUc)), cell_at (hW.block cb hcb)]; exact hcc))
  have HSB := hid (fun (w1 : World) (hm : Mid U W.heap.size W w1) => (show w1.cell? ⟨sb, 0, none⟩ = some sv from by
    rw [cell_at (hm.keep sb (Nat.lt_of_lt_of_le hsb hW.size) (.inl hUs)), cell_at (hW.block sb hsb)]; exact hcs))
  obtain ⟨As, ns, cs, hsve⟩ : ∃ As ns cs, sv = .slice As ns cs := by obtain ⟨A, c, h, _⟩ := hs.form; exact ⟨A, _, c, h⟩
  obtain ⟨nu, lv, ev, nv, bef, q1, q2, q3, q4, q5, q6⟩ := hk.ex
  have HRW := hid (fun (w1 : World) (hb : Below wc.heap.size wc w1) => q1.mono hb)
  have HLV := hid (fun (w1 : World) (hb : Below wc.heap.size wc w1) => q3.mono hb)
  have HTC := hid (fun (h2 : codec = 2) (w1 : World) (hb : Below wc.heap.size wc w1) => tallyCodes_I w1 g rows codec wd nulls count list ends base lanes (hk.mono hb) hbm hnv hrr sv sel (hs.mono hb) hsv hsl hsr (hT.mono hb hT.lt) hd.ll hd.lv hd.w64 (hd.two h2))
  have HTR := hid (fun (h3 : codec = 3) (w1 : World) (hb : Below wc.heap.size wc w1) => tallyRuns_I w1 g rows codec wd nulls count list ends base lanes (hk.mono hb) hbm hnv hrr sv sel (hs.mono hb) hsv hsl hsr (hT.mono hb hT.lt) hd.ll (hd.three h3).1 (hd.three h3).2.1 (hd.three h3).2.2)
  have hjl : (chosenN sel nulls (64 * sel.length)).length ≤ 70000 := by have := chosenN_len sel nulls (64 * sel.length); omega
  have hcnt : ∀ f k, (cntsL f (chosenN sel nulls (64 * sel.length)) list.length).getD k 0 ≤ 1048576 := fun f k => by
    by_cases hk2 : k < list.length
    · rw [cntsL_get _ _ _ _ hk2]; have := cntOfF_le f (chosenN sel nulls (64 * sel.length)) k; omega
    · simp [List.getD, List.getElem?_eq_none (show (cntsL f (chosenN sel nulls (64 * sel.length)) list.length).length ≤ k by rw [cntsL_len]; omega)]
  have HVL := hid (fun (w1 : World) (hb : Below wc.heap.size wc w1) (j : Nat) (hj : j ∈ chosenN sel nulls (64 * sel.length)) => ValueAll_I w1 g rows codec wd nulls count list ends base lanes j (hk.mono hb) hd.el hd.ll hd.lv (hd.jj j hj).1 (hd.jj j hj).2)
  have HCG := hid (fun (w1 : World) (hb : Below wc.heap.size wc w1) (V : Nat → Prop) (hV : ∀ k, k < wc.heap.size → V k) (sb1 cb1 : Nat) (h1 : sb1 < w1.heap.size) (h2 : cb1 < w1.heap.size) (h3 : V sb1) (h4 : V cb1) (h5 : w1.cell? ⟨sb1, 0, none⟩ = some sv) (h6 : w1.cell? ⟨cb1, 0, none⟩ = some (.pointer (some ⟨g, 0, none⟩))) =>
    chosen_gives_I wc g rows codec wd nulls count list ends base lanes hk hbm hnv hrr sv sel hs hsv hsl hsr hT w1 hb V hV sb1 cb1 h1 h2 h3 h4 h5 h6)
  have hll := hd.ll
  clear hk hbm hnv hs hsv hsl hsr hT hd q1 q2 q3 q4 q5 q6 hcs hcc
  generalize chosenN sel nulls (64 * sel.length) = js at *
  subst hsve
  obtain ⟨Al, cl, hlv⟩ : ∃ Al cl, lv = .slice Al list.length cl := by obtain ⟨A, c, h, _⟩ := (HLV.out wc (brefl wc)).form; exact ⟨A, c, h⟩
  subst hlv
  have HC1 : Hid (∀ w1 : World, Below wc.heap.size wc w1 → w1.cell? ⟨g, 1, none⟩ = some (.int .i64 (codec : Nat))) := hid (fun w1 hb => by rw [(HRW.out w1 hb).cell]; rfl)
  have HC5 : Hid (∀ w1 : World, Below wc.heap.size wc w1 → w1.cell? ⟨g, 5, none⟩ = some (.slice Al list.length cl)) := hid (fun w1 hb => by rw [(HRW.out w1 hb).cell]; rfl)
  have hrow : Row (W.alloc (.cells #[.func (.yield l) #[] #[]] 178)) s 178 [.func (.yield l) #[] #[]] := by rw [← hsz]; unfold Row; rw [heap_alloc_new]
  have hm1 : Mid U W.heap.size W (W.alloc (.cells #[.func (.yield l) #[] #[]] 178)) := Mid.of_below ((brefl W).alloc (Nat.le_refl _) _)
  have hz1 : (W.alloc (.cells #[.func (.yield l) #[] #[]] 178)).heap.size = s + 1 := by simp [hsz]
  have HJ1 := hid (hJ _ _ _ h0 ((brefl W).alloc (Nat.le_refl _) (.cells #[.func (.yield l) #[] #[]] 178)))
  have HROW := hid hrow; have HM1 := hid hm1; have HZ1 := hid hz1
  have HY := hid hY; have HJ := hid hJ
  clear hrow hm1 hz1 hY hJ h0
  refine (callsIn_wide (n := 9)).1 ?_
  refine callsIn_of_wp_marks Tryz.func125 rfl trivial ?_ rfl
  simp only [Tryz.ntmps125, List.size_toArray, List.length_cons, List.length_nil, Nat.reduceAdd, Nat.reduceSub, Array.replicate_succ, Array.replicate_zero, List.push_toArray, List.append_toArray, List.nil_append, List.cons_append]
  refine wpIn_wide.2 ?_
  go_upto_region 1 with fail
  generalize W.alloc (.cells #[.func (.yield l) #[] #[]] 178) = W1 at *
  have hb1 := HCH.out W1 HM1.out
  have k0 := HCB.out W1 HM1.out
  have k1 := HSB.out W1 HM1.out
  have k2 := HC1.out W1 hb1
  have k3 := HC5.out W1 hb1
  have k4 := HROW.out.cell 0
  simp only [List.getElem?_cons_zero] at k4
  have hmx : Tryz.prog.follows .mixedOrders = true := by kernel_rfl
  have HSZ1 := hid (show ∀ (w2 : World), Below W1.heap.size W1 w2 → Mid U W.heap.size W w2 from fun w2 hb => HM1.out.trans (Mid.of_below hb))
  have HJS := hid (show ∀ (w2 : World), Below W1.heap.size W1 w2 → J [] w2 from fun w2 hb => HJ.out _ _ _ HJ1.out (hb.mono (by rw [HZ1.out, hsz]; omega)))
  -- showTally, whatever was counted
  have HST := hid (fun (w2 : World) (hb : Below W1.heap.size W1 w2) (f : Nat → Nat) (gc : Nat) (hg : W.heap.size ≤ gc) (hr : Row w2 gc 3 (ints (cntsL f js list.length))) =>
    showTally_I U W.heap.size l J list (cntsL f js list.length) (.slice Al list.length cl) (.slice (some ⟨gc, 0, none⟩) list.length list.length) list.length w2 (cntsL_len _ _ _) hll (Nat.le_refl _) (fun k _ => hcnt f k)
      (fun w9 h9 => HLV.out w9 (HCH.out w9 ((HSZ1.out w2 hb).trans h9))) (fun w9 h9 => h9.rd hr hg (by simp [ints, cntsL]) (by unfold maxLen; omega)))
  by_cases h2 : codec = 2
  · have hty : tallyP_I codec wd list ends base lanes js = shL dfI list (cntsL (L.laneOf wd lanes) js list.length) list.length := by unfold tallyP_I; rw [if_pos h2]
    rw [hty] at HY
    have HTY := hid hty
    have HTC2 := hid (HTC.out h2)
    have HYS := hid (fun (w2 : World) (hb : Below W1.heap.size W1 w2) (pre : List (Int × Nat)) (x : Int × Nat) (w9 : World) (hp : pre ++ [x] <+: shL dfI list (cntsL (L.laneOf wd lanes) js list.length) list.length) (hj : J pre w9) (h9 : Mid U W.heap.size w2 w9) => HY.out pre x w9 hp hj ((HSZ1.out w2 hb).trans h9).low.size ((HSZ1.out w2 hb).trans h9))
    subst h2
    clear hty HTC HTR HVL HCG hcnt
    go_upto_region 6 with fail
    go_region_held3 (fun w' => w'.cell? ⟨cb, 0, none⟩ = some (.pointer (some ⟨g, 0, none⟩)) ∧ w'.cell? ⟨sb, 0, none⟩ = some (.slice As ns cs) ∧ w'.cell? ⟨s, 0, none⟩ = some (.func (.yield l) #[] #[]) ∧ w'.cell? ⟨g, 5, none⟩ = some (.slice Al list.length cl)) (first | go_keep)
      (first
        | (go_at_call 127; refine (HTC2.out _ (Go.below_drewN hb1 1)).mono ?_; rintro e w2 ⟨gc, rfl, hg2, hr2, hb2⟩; have HB2 : Hid (Below W1.heap.size W1 w2) := hid (bthen (bdrew (brefl W1) 1) hb2); have HR2 := hid hr2; have hgc : W.heap.size ≤ gc := (by have h9 := HZ1.out; have hg3 : W1.heap.size ≤ gc := hg2; omega); have HM2 := hid (HSZ1.out w2 HB2.out); have HRY2 := hid (HROW.out.mono HB2.out); have n0 := HCB.out w2 HM2.out; have n1 := HSB.out w2 HM2.out; have n2 := HRY2.out.cell 0; have n3 := HC5.out w2 (HCH.out w2 HM2.out); simp only [List.getElem?_cons_zero] at n2)
        | (go_at_call 126; refine (HST.out w2 HB2.out _ gc hgc HR2.out (HYS.out w2 HB2.out) (HJS.out w2 HB2.out)).mono ?_; rintro e w3 ⟨⟨v3, rfl⟩, hj3, hm3⟩; have HJ3 := hid hj3; have HM3 := hid (HM2.out.trans hm3); have HRY3 := hid (hm3.row HRY2.out (.inr (by omega))); have y0 := HCB.out w3 HM3.out; have y1 := HSB.out w3 HM3.out; have y2 := HRY3.out.cell 0; have y3 := HC5.out w3 (HCH.out w3 HM3.out); simp only [List.getElem?_cons_zero] at y2; clear hj3 hm3))
    all_goals (try simp only [Exit.inBlock, Exit.then])
    all_goals exact ⟨_, results_none rfl _ _ _, ⟨_, rfl⟩, by rw [HTY.out]; exact HJ3.out, HM3.out⟩
  by_cases h3 : codec = 3
  · have hty : tallyP_I codec wd list ends base lanes js = shL dfI list (cntsL (runOf ends) js list.length) list.length := by unfold tallyP_I; rw [if_neg h2, if_pos h3]
    rw [hty] at HY
    have HTY := hid hty
    have HTC2 := hid (HTR.out h3)
    have HYS := hid (fun (w2 : World) (hb : Below W1.heap.size W1 w2) (pre : List (Int × Nat)) (x : Int × Nat) (w9 : World) (hp : pre ++ [x] <+: shL dfI list (cntsL (runOf ends) js list.length) list.length) (hj : J pre w9) (h9 : Mid U W.heap.size w2 w9) => HY.out pre x w9 hp hj ((HSZ1.out w2 hb).trans h9).low.size ((HSZ1.out w2 hb).trans h9))
    subst h3
    clear h2
    clear hty HTC HTR HVL HCG hcnt
    go_upto_region 8 with fail
    go_region_held3 (fun w' => w'.cell? ⟨cb, 0, none⟩ = some (.pointer (some ⟨g, 0, none⟩)) ∧ w'.cell? ⟨sb, 0, none⟩ = some (.slice As ns cs) ∧ w'.cell? ⟨s, 0, none⟩ = some (.func (.yield l) #[] #[]) ∧ w'.cell? ⟨g, 5, none⟩ = some (.slice Al list.length cl)) (first | go_keep)
      (first
        | (go_at_call 128; refine (HTC2.out _ (Go.below_drewN hb1 1)).mono ?_; rintro e w2 ⟨gc, rfl, hg2, hr2, hb2⟩; have HB2 : Hid (Below W1.heap.size W1 w2) := hid (bthen (bdrew (brefl W1) 1) hb2); have HR2 := hid hr2; have hgc : W.heap.size ≤ gc := (by have h9 := HZ1.out; have hg3 : W1.heap.size ≤ gc := hg2; omega); have HM2 := hid (HSZ1.out w2 HB2.out); have HRY2 := hid (HROW.out.mono HB2.out); have n0 := HCB.out w2 HM2.out; have n1 := HSB.out w2 HM2.out; have n2 := HRY2.out.cell 0; have n3 := HC5.out w2 (HCH.out w2 HM2.out); simp only [List.getElem?_cons_zero] at n2)
        | (go_at_call 126; refine (HST.out w2 HB2.out _ gc hgc HR2.out (HYS.out w2 HB2.out) (HJS.out w2 HB2.out)).mono ?_; rintro e w3 ⟨⟨v3, rfl⟩, hj3, hm3⟩; have HJ3 := hid hj3; have HM3 := hid (HM2.out.trans hm3); have HRY3 := hid (hm3.row HRY2.out (.inr (by omega))); have y0 := HCB.out w3 HM3.out; have y1 := HSB.out w3 HM3.out; have y2 := HRY3.out.cell 0; have y3 := HC5.out w3 (HCH.out w3 HM3.out); simp only [List.getElem?_cons_zero] at y2; clear hj3 hm3))
    all_goals (try simp only [Exit.inBlock, Exit.then])
    all_goals exact ⟨_, results_none rfl _ _ _, ⟨_, rfl⟩, by rw [HTY.out]; exact HJ3.out, HM3.out⟩
  have hty : tallyP_I codec wd list ends base lanes js = js.map fun j => (vl_I codec wd list ends base lanes j, 1) := by unfold tallyP_I; rw [if_neg h2, if_neg h3]
  rw [hty] at HY
  have HTY := hid hty
  have e2 : ((codec : Int) == 2) = false := by simp; omega
  have e3 : ((codec : Int) == 3) = false := by simp; omega
  clear hty HTC HTR hcnt HST k3
  have HCO := hid (chosen_I W1 g As ns cs)
  have HA4 := hid ((((brefl W1).alloc (Nat.le_refl _) (.cells #[.pointer (some ⟨g, 0, none⟩)] 115))).alloc (by simp) (.cells #[.slice As ns cs] 28))
  have HZ4 : Hid (((W1.alloc (.cells #[.pointer (some ⟨g, 0, none⟩)] 115)).alloc (.cells #[.slice As ns cs] 28)).heap.size = s + 3) := hid (by have := HZ1.out; simp; omega)
  have HP4 : Hid (((W1.alloc (.cells #[.pointer (some ⟨g, 0, none⟩)] 115)).alloc (.cells #[.slice As ns cs] 28)).cell? ⟨s + 1, 0, none⟩ = some (.pointer (some ⟨g, 0, none⟩))) := hid (by rw [← HZ1.out]; simp)
  have HQ4 : Hid (((W1.alloc (.cells #[.pointer (some ⟨g, 0, none⟩)] 115)).alloc (.cells #[.slice As ns cs] 28)).cell? ⟨s + 1 + 1, 0, none⟩ = some (.slice As ns cs)) := hid (by rw [← HZ1.out]; simp)
  rw [HZ1.out] at HCO
  go_wp2_with (go_at_call 129; refine HCO.out.mono ?_; rintro e w4 ⟨rfl, hw4⟩; rw [← hw4] at HA4 HZ4 HP4 HQ4; clear hw4)
  have hz4 := HZ4.out
  have HR4 := hid (HROW.out.mono HA4.out)
  have HM4 := hid (HSZ1.out w4 HA4.out)
  have HJ4 := hid (HJS.out w4 HA4.out)
  refine wpIn_wide.1 (range_all (n := 9) rfl (gf := 170) (lb := #[.pointer (some ⟨s + 1 + 1, 0, none⟩), .pointer (some ⟨s + 1, 0, none⟩)]) rfl (enters_of Tryz.func170 (by kernel_rfl) rfl)
    (HCG.out w4 (HCH.out w4 HM4.out) (fun k => U k ∨ k = s + 1 ∨ k = s + 2) (fun k hk => .inl (hU k hk)) _ _ (by omega) (by omega) (.inr (.inr rfl)) (.inr (.inl rfl)) HQ4.out HP4.out) (brefl w4) (fun k hk => by rcases hk with hk | hk; (have := hU0 k hk; omega); omega) (fun _ => rfl)
    (fun pre W' => J (pre.map fun j => (vl_I codec wd list ends base lanes j, 1)) W' ∧ Row W' s 178 [.func (.yield l) #[] #[]] ∧ Mid U W.heap.size W W')
    (fun pre A B h hb => ⟨HJ.out _ _ _ h.1 (hb.mono (by omega)), h.2.1.below hb (by omega), ⟨h.2.2.low.trans (hb.mono (Nat.zero_le _)), fun k hk hk2 => (hb.block k (by omega)).trans (h.2.2.keep k hk hk2)⟩⟩)
    ⟨HJ4.out, HR4.out, HM4.out⟩
    (fun x => { tmps := #[.func (.yield l) #[] #[], .pointer (some ⟨cb, 0, none⟩), .pointer (some ⟨sb, 0, none⟩), .pointer (some ⟨s, 0, none⟩), .int .i64 (x : Int), .pointer (some ⟨g, 0, none⟩), .pointer (some ⟨g, 0, none⟩), .pointer (some ⟨g, 1, none⟩), .int .i64 (codec : Int), .pointer (some ⟨g, 0, none⟩), .slice As ns cs, .func (.func 170) #[] #[.pointer (some ⟨s + 1 + 1, 0, none⟩), .pointer (some ⟨s + 1, 0, none⟩)], .int .i64 (x : Int), undef, undef, undef, undef, undef, undef, .bool false, .bool false, undef, undef, undef, undef, undef, undef, undef, undef, undef, .bool false, .bool false, undef, undef, undef, undef, undef, undef, undef, undef, undef], defers := [] }) ?assign ?body ?done)
  case assign =>
    intro l x W K hK
    gi_wp2
    exact hK
  case body =>
    rintro l2 pre x W' hpre ⟨r1, r2, r3⟩ hsW hmW
    have HCW := hid (HCH.out W' r3)
    have y1 := HCB.out W' r3
    have y2 := r2.cell 0
    simp only [List.getElem?_cons_zero] at y2
    have HR1 := hid r1; have HR2 := hid r2; have HR3 := hid r3
    have HVX := hid (fun (w9 : World) (hb : Below wc.heap.size wc w9) => HVL.out w9 hb x (mem_prefix hpre).1)
    have hpm : (pre.map fun j => (vl_I codec wd list ends base lanes j, 1)) ++ [(vl_I codec wd list ends base lanes x, 1)] <+: js.map fun j => (vl_I codec wd list ends base lanes j, 1) := by
      have := hpre.map fun j => (vl_I codec wd list ends base lanes j, 1)
      simpa using this
    have HYX : Hid (∀ w9 : World, Below W'.heap.size W' w9 → YieldAt Fence.wide 8 Tryz.prog l #[vI (vl_I codec wd list ends base lanes x), .int .i64 1] w9 fun e W9 => e = .returned (.bool true) ∧ J ((pre.map fun j => (vl_I codec wd list ends base lanes j, 1)) ++ [(vl_I codec wd list ends base lanes x, 1)]) W9 ∧ Mid U W.heap.size w9 W9) := hid (fun (w9 : World) (hb : Below W'.heap.size W' w9) => yield_any (m' := 8) (HY.out _ (vl_I codec wd list ends base lanes x, 1) w9 hpm (HJ.out _ _ _ HR1.out (hb.mono HR3.out.low.size)) (Nat.le_trans HR3.out.low.size hb.size) (HR3.out.trans (Mid.of_below hb))))
    have HMA : Hid ((pre ++ [x]).map (fun j => (vl_I codec wd list ends base lanes j, 1)) = (pre.map fun j => (vl_I codec wd list ends base lanes j, 1)) ++ [(vl_I codec wd list ends base lanes x, 1)]) := hid (by simp)
    obtain ⟨vx, hvx⟩ : ∃ vx, vl_I codec wd list ends base lanes x = vx := ⟨_, rfl⟩
    rw [hvx] at HVX HYX
    have HVV := hid hvx
    clear r1 r2 r3 hpm hvx
    unfold vI at HVX HYX
    gi_wp2
    gi_region_with_o (first
      | (refine ⟨trivial, ?_⟩; gi_at_call 130; refine (CallsIn.inRound l2 (callsIn_wide.2 (HVX.out _ (Go.below_drewN HCW.out 1)))).mono ?_; rintro e w5 ⟨rfl, hb5⟩; have HB5 : Hid (Below W'.heap.size W' w5) := hid (bthen (bdrew (brefl W') 1) hb5); obtain ⟨fn, tmps, assign, body, hy, hR⟩ := HYX.out w5 HB5.out; have hR2 := round_inRound l2 hR; have HRY5 := hid (HR2.out.mono HB5.out); have n2 := HRY5.out.cell 0; simp only [List.getElem?_cons_zero] at n2; clear hb5)
      | (refine hR2.mono ?_; rintro e w6 ⟨rfl, hj6, hm6⟩; have HJ6 := hid hj6; have HM6 := hid hm6; clear hj6 hm6))
    all_goals gi_wp2
    all_goals refine ⟨⟨by rw [HVV.out]; exact HJ6.out, ?_, ?_⟩, ?_⟩
    all_goals first
      | exact HM6.out.row HRY5.out (.inr (by rw [hsz]; exact Nat.le_refl _))
      | (have h9 := (HR3.out.trans (Mid.of_below HB5.out)).trans HM6.out
         rw [hsz] at h9
         exact h9)
      | (have h9 := (Mid.of_below (U := fun k => U k ∨ k = s + 1 ∨ k = s + 2) (b := w4.heap.size) HB5.out).trans (HM6.out.sub (V := fun k => U k ∨ k = s + 1 ∨ k = s + 2) (b' := w4.heap.size) (fun k hk => by
           rcases hk with hk | hk | hk
           · exact .inl hk
           · right; omega
           · right; omega) (by omega))
         rw [hz4] at h9
         exact h9)
  case done =>
    rintro W' ⟨r1, r2, r3⟩ hmW hK
    have HR1 := hid r1; have HR3 := hid r3; have HKK := hid hK
    go_wp2_with fail
    refine ⟨by simp, .inl ⟨_, _, rfl, run_takeDeferred HKK.out, ?_⟩⟩
    refine ⟨_, results_none rfl _ _ _, ⟨_, rfl⟩, by rw [HTY.out]; exact HJ.out _ _ _ HR1.out ((put_below HKK.out (Nat.le_refl _)).mono (by omega)), ?_⟩
    exact ⟨HR3.out.low.trans (put_below HKK.out (Nat.zero_le _)), fun k hk hk2 => (World.putObj_heap_other (by omega)).trans (HR3.out.keep k hk hk2)⟩
end Go.Proofs.YthonbfojpbfmgaaGreatDoor
