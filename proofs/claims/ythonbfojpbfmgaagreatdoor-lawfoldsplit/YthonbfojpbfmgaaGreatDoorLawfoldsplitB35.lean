/- LawFoldSplit: folded. -/
import Derived.Test.YthonbfojpbfmgaaGreatDoorLawfoldsplitB22
import Derived.Test.YthonbfojpbfmgaaGreatDoorLawfoldsplitB33
import Derived.Test.YthonbfojpbfmgaaGreatDoorLawfoldsplitB34
import Derived.Test.YthonbfojpbfmgaaGreatDoorLawfoldsplitB26
import Derived.Deep.QuietTactic
import Derived.Deep.CutRange
set_option linter.unusedVariables false
set_option linter.unusedSimpArgs false
set_option linter.unnecessarySimpa false
set_option maxRecDepth 100000
namespace Go.Proofs.YthonbfojpbfmgaaGreatDoor
open Go.RowKit

set_option maxHeartbeats 8000000 in
theorem folded_any (pick : Nat) (u fv : Value) (cs : List C3) (fl : List Bool) (w : World) (hT : Tab w) (hu : Rd w u cs.length 3 (cells3 cs)) (hf : Rd w fv fl.length 1 (bools fl)) (hl : cs.length ≤ 65536) (hc : cs.all (ofK 1) = true)
    (hI : ∀ x ∈ cs, okI x.i) (hs : sumT (valsOf cs) ≤ 1048576) :
    Calls Tryz.prog 22 #[u, .int .i64 pick, fv] w fun e w' => e = .returned (.tuple #[(refP (pickV cs (fun i => fl.getD i false))).v, .bool true]) ∧ Below w.heap.size w w' := by
  obtain ⟨s, hsz⟩ : ∃ s, w.heap.size = s := ⟨_, rfl⟩
  have hfit := fit_ok (kind := 1) (pick := pick) (by decide) hl hc
  obtain ⟨fc, hfc⟩ : ∃ fc, fitC 1 cs.length pick = fc := ⟨_, rfl⟩
  have HFT := hid (fun (w2 : World) => fitting_any 1 cs.length pick w2)
  rw [hfc] at HFT hfit
  obtain ⟨cd, wd⟩ := fc
  simp only at HFT hfit
  have HEN := hid (fun (w2 : World) (h : Below w.heap.size w w2) => Encode_any 1 cd wd u cs w2 (hu.mono h) (by omega) (by omega))
  obtain ⟨hB, hBl⟩ := encB_bytes hfit hs
  obtain ⟨FF, hFF⟩ : ∃ FF : Nat → Bool, (fun i => fl.getD i false) = FF := ⟨_, rfl⟩
  have HSE := hid (fun (w2 : World) (h : Below w.heap.size w w2) => selected_any fv fl cs.length w2 hl (hf.mono h))
  rw [hFF] at HSE ⊢
  unfold HitAns at HSE
  have HSV := fun (sel : List Nat) (hb : BitsOf cs.length FF sel) => split_vals hfit hI (show sumT (valsOf cs) < 4294967296 by omega) hl hb
  rw [hfit] at HEN
  obtain ⟨B, hBB⟩ : ∃ B, encB 1 cd wd cs = B := ⟨_, rfl⟩
  rw [hBB] at HEN hB hBl HSV
  obtain ⟨RP, hRP⟩ : ∃ RP, refP (pickV cs FF) = RP := ⟨_, rfl⟩
  rw [hRP] at HSV ⊢
  have HFO : Hid (∀ (w2 : World) (v sv : Value) (sel : List Nat), Below w.heap.size w w2 → Rd w2 v B.length 1 (u8s B) → BitsOf cs.length FF sel → Rd w2 sv ((cs.length + 63) / 64) 1 (u64s sel) →
      Calls Tryz.prog 16 #[.int .i64 1, .int .i64 cs.length, v, sv] w2 fun e w' => e = .returned (.tuple #[RP.v, .int .i64 0]) ∧ Below w2.heap.size w2 w') := hid (by
    intro w2 v sv sel h h1 hb h2
    have h3 := Fold_any 1 cs.length v sv B sel w2 (hT.mono h hT.lt) h1 hB hBl (by rw [hb.1]; exact h2) hb.2.1 (by rw [hb.1]; unfold maxLen; omega)
    rw [(HSV sel hb).1, (HSV sel hb).2] at h3
    exact h3)
  obtain ⟨A0, c0, rfl, _, _, _⟩ := hu.form
  obtain ⟨A1, c1, rfl, _, _, _⟩ := hf.form
  clear hu hf hT hc hI hs hfit hfc hB hBl HSV hFF hRP hBB
  obtain ⟨n, hn⟩ : ∃ n, cs.length = n := ⟨_, rfl⟩
  obtain ⟨fn, hfn⟩ : ∃ fn, fl.length = fn := ⟨_, rfl⟩
  simp only [hn, hfn] at HFT HEN HSE HFO hl ⊢
  clear hn hfn
  obtain ⟨nw, hnw⟩ : ∃ nw, (n + 63) / 64 = nw := ⟨_, rfl⟩
  simp only [hnw] at HSE HFO
  clear hnw
  obtain ⟨mct, mhi, mlo, ⟨mmnn, mmni, mmns⟩, ⟨mmxn, mmxi, mmxs⟩⟩ := RP
  unfold P9.v at HFO ⊢
  simp only at HFO ⊢
  have HB0 := hid ((brefl w).alloc (Nat.le_refl _) (.cells #[.int .i64 0, .int .i64 0, .int .u64 0, .bool false, .int .i64 0, .string ⟨#[]⟩, .bool false, .int .i64 0, .string ⟨#[]⟩] 44))
  have HR0 : Hid (Row (w.alloc (.cells #[.int .i64 0, .int .i64 0, .int .u64 0, .bool false, .int .i64 0, .string ⟨#[]⟩, .bool false, .int .i64 0, .string ⟨#[]⟩] 44)) s 44 [.int .i64 0, .int .i64 0, .int .u64 0, .bool false, .int .i64 0, .string ⟨#[]⟩, .bool false, .int .i64 0, .string ⟨#[]⟩]) := hid (by rw [← hsz]; unfold Row; rw [heap_alloc_new])
  have FIN := hid (fun (w1 : World) (hr : Row w1 s 44 [.int .i64 0, .int .i64 0, .int .u64 0, .bool false, .int .i64 0, .string ⟨#[]⟩, .bool false, .int .i64 0, .string ⟨#[]⟩]) (hb : Below w.heap.size w w1) =>
    (And.intro (set9_below hb s (by omega) (.int .i64 mct) (.int .i64 mhi) (.int .u64 mlo) (.bool mmnn) (.int .i64 mmni) (.string mmns) (.bool mmxn) (.int .i64 mmxi) (.string mmxs))
      (row9 (set9_row hr (.int .i64 mct) (.int .i64 mhi) (.int .u64 mlo) (.bool mmnn) (.int .i64 mmni) (.string mmns) (.bool mmxn) (.int .i64 mmxi) (.string mmxs)))))
  unfold set9 at FIN
  go_enter Tryz.func22, Tryz.ntmps22
  go_upto_region 1 with fail
  generalize w.alloc (.cells #[.int .i64 0, .int .i64 0, .int .u64 0, .bool false, .int .i64 0, .string ⟨#[]⟩, .bool false, .int .i64 0, .string ⟨#[]⟩] 44) = w0 at *
  go_upto_region 3 with (first
    | (go_at_call 43; refine (HFT.out _).mono ?_; rintro e w1 ⟨rfl, hw⟩; replace hw := hw.symm; subst hw)
    | (go_at_call 44; refine (HEN.out _ HB0.out).mono ?_; rintro e w2 ⟨r1, rfl, ⟨⟨A2, n2, c2, rfl⟩, _⟩, h1, h2⟩; have HOB := hid (h1 rfl); have HB2 := hid (HB0.out.trans (h2.mono HB0.out.size)); have HR2 := hid (HR0.out.mono h2); have HS2 := hid HB2.out.size; clear h1 h2))
  obtain ⟨bA, bc, hbb⟩ := HOB.out.form
  injection hbb with hb1 hb2 hb3
  subst hb1 hb2 hb3
  have HBR := hid (owns_rd HOB.out)
  clear HOB
  have hs2 := HS2.out
  go_upto_region 4 with (first
    | (go_at_call 45; refine (HSE.out _ HB2.out).mono ?_; rintro e w3 ⟨sv, zs, rfl, hbits, hrd, hb3⟩; have HBI := hid hbits; have HRS := hid hrd; have HB23 := hid hb3; obtain ⟨A3, c3, rfl, _⟩ := hrd.form; clear hbits hrd hb3)
    | (go_at_call 16; refine (HFO.out _ _ _ _ (HB2.out.trans (HB23.out.mono HB2.out.size)) (HBR.out.mono HB23.out) HBI.out HRS.out).mono ?_; rintro e w4 ⟨rfl, hb4⟩; have HB24 := hid (bthen HB23.out hb4); clear hb4))
  have HA5 := hid ((brefl w4).alloc (Nat.le_refl _) (.cells #[.int .i64 mct, .int .i64 mhi, .int .u64 mlo, .bool mmnn, .int .i64 mmni, .string mmns, .bool mmxn, .int .i64 mmxi, .string mmxs] 44))
  have HRP5 : Hid (Row (w4.alloc (.cells #[.int .i64 mct, .int .i64 mhi, .int .u64 mlo, .bool mmnn, .int .i64 mmni, .string mmns, .bool mmxn, .int .i64 mmxi, .string mmxs] 44)) w4.heap.size 44 [.int .i64 mct, .int .i64 mhi, .int .u64 mlo, .bool mmnn, .int .i64 mmni, .string mmns, .bool mmxn, .int .i64 mmxi, .string mmxs]) := hid (by unfold Row; rw [heap_alloc_new])
  have HB25 := hid (bthen HB24.out HA5.out)
  have HR5 := hid (HR2.out.mono HB25.out)
  have HBW5 := hid (HB2.out.trans (HB25.out.mono HB2.out.size))
  clear HFO HEN HSE HFT HB24 HA5 HB25 HR2 HR0 HB0
  generalize w4.alloc (.cells #[.int .i64 mct, .int .i64 mhi, .int .u64 mlo, .bool mmnn, .int .i64 mmni, .string mmns, .bool mmxn, .int .i64 mmxi, .string mmxs] 44) = w5 at *
  generalize w4.heap.size = gp at *
  obtain ⟨p0, p1, p2, p3, p4, p5, p6, p7, p8⟩ := row9 HRP5.out
  obtain ⟨y0, y1, y2, y3, y4, y5, y6, y7, y8⟩ := row9 HR5.out
  obtain ⟨f0, f1, f2, f3, f4, f5, f6, f7, f8⟩ := frz9 HR5.out
  have HE := hid (FIN.out w5 HR5.out HBW5.out)
  go_wp2_with fail
  obtain ⟨hbf, z0, z1, z2, z3, z4, z5, z6, z7, z8⟩ := HE.out
  refine bodyPost_ret (v := .tuple #[.agg #[.int .i64 mct, .int .i64 mhi, .int .u64 mlo, .bool mmnn, .int .i64 mmni, .string mmns, .bool mmxn, .int .i64 mmxi, .string mmxs], .bool true]) ?_ rfl ⟨rfl, hbf⟩
  clear p0 p1 p2 p3 p4 p5 p6 p7 p8 y0 y1 y2 y3 y4 y5 y6 y7 y8
  simp [results, Tryz.results22, go_sem, z0, z1, z2, z3, z4, z5, z6, z7, z8]
end Go.Proofs.YthonbfojpbfmgaaGreatDoor

/- Parts: Merge of the plain answer. -/
set_option linter.unusedVariables false
set_option linter.unusedSimpArgs false
set_option linter.unnecessarySimpa false
set_option maxRecDepth 200000
namespace Go.Proofs.YthonbfojpbfmgaaGreatDoor
open Go.RowKit

end Go.Proofs.YthonbfojpbfmgaaGreatDoor

/- LawFoldSplit: what the law's own loop counts is what the Part tells; a list cut in two. -/
set_option linter.unusedVariables false
set_option linter.unusedSimpArgs false
set_option linter.unnecessarySimpa false
set_option maxRecDepth 20000
namespace Go.Proofs.YthonbfojpbfmgaaGreatDoor
open Go.RowKit

/-- the values of the first t cells that are picked -/
def pickT (cs : List C3) (F : Nat → Bool) (t : Nat) : List PV := ((List.range t).filter fun r => F r && !(cs.getD r C3.df).n).map fun r => ((cs.getD r C3.df).i, (cs.getD r C3.df).s)
theorem pickT_full (cs : List C3) (F : Nat → Bool) : pickT cs F cs.length = pickV cs F := rfl
theorem pickT_yes {cs : List C3} {F : Nat → Bool} {t : Nat} (h1 : F t = true) (h2 : (cs.getD t C3.df).n = false) : pickT cs F (t + 1) = pickT cs F t ++ [((cs.getD t C3.df).i, (cs.getD t C3.df).s)] := by
  unfold pickT
  rw [List.range_succ, List.filter_append, List.map_append, List.filter_cons, h1, h2]
  rfl
theorem pickT_no {cs : List C3} {F : Nat → Bool} {t : Nat} (h : F t = false ∨ (cs.getD t C3.df).n = true) : pickT cs F (t + 1) = pickT cs F t := by
  have e : (F t && !(cs.getD t C3.df).n) = false := by
    rcases h with h | h
    · rw [h]; rfl
    · rw [h]; cases F t <;> rfl
  unfold pickT
  rw [List.range_succ, List.filter_append, List.map_append, List.filter_cons, e]
  simp
theorem pickV_split (cs : List C3) (fl : List Bool) (k : Nat) (hk : k ≤ cs.length) :
    pickV cs (fun i => fl.getD i false) = pickV (cs.take k) (fun i => (fl.take k).getD i false) ++ pickV (cs.drop k) (fun i => (fl.drop k).getD i false) := by
  unfold pickV
  have e : List.range cs.length = List.range k ++ (List.range (cs.length - k)).map (k + ·) := by rw [← List.range_add, Nat.add_sub_cancel' hk]
  rw [e, List.length_take, Nat.min_eq_left hk, List.length_drop, List.filter_append, List.map_append, List.filter_map, List.map_map]
  have g1 : ∀ r, r < k → (cs.take k).getD r C3.df = cs.getD r C3.df := fun r h => by simp [List.getD, List.getElem?_take, h]
  have g2 : ∀ r, r < k → (fl.take k).getD r false = fl.getD r false := fun r h => by simp [List.getD, List.getElem?_take, h]
  have g3 : ∀ r, (cs.drop k).getD r C3.df = cs.getD (k + r) C3.df := fun r => by simp [List.getD, List.getElem?_drop]
  have g4 : ∀ r, (fl.drop k).getD r false = fl.getD (k + r) false := fun r => by simp [List.getD, List.getElem?_drop]
  congr 1
  · have f : (List.range k).filter (fun r => (fl.take k).getD r false && !((cs.take k).getD r C3.df).n) = (List.range k).filter (fun r => fl.getD r false && !(cs.getD r C3.df).n) := by
      apply List.filter_congr
      intro r hr
      rw [g1 r (List.mem_range.1 hr), g2 r (List.mem_range.1 hr)]
    rw [f]
    apply List.map_congr_left
    intro r hr
    rw [List.mem_filter, List.mem_range] at hr
    rw [g1 r hr.1]
  · have f : ((fun r => fl.getD r false && !(cs.getD r C3.df).n) ∘ fun x => k + x) = fun r => (fl.drop k).getD r false && !((cs.drop k).getD r C3.df).n := by
      funext r
      rw [Function.comp_apply, g3, g4]
    rw [f]
    apply List.map_congr_left
    intro r _
    rw [Function.comp_apply, g3]
theorem pick_len (cs : List C3) (F : Nat → Bool) : (pickV cs F).length ≤ cs.length := by
  unfold pickV
  rw [List.length_map]
  refine Nat.le_trans (List.length_filter_le _ _) ?_
  rw [List.length_range]; exact Nat.le_refl _
theorem pick_bd {cs : List C3} (hI : ∀ x ∈ cs, okI x.i) (F : Nat → Bool) : ∀ c ∈ (pickV cs F).map pcC, -9223372036854775808 ≤ c.i ∧ c.i ≤ 9223372036854775807 := by
  intro c hc
  obtain ⟨p, hp, rfl⟩ := List.mem_map.1 hc
  unfold pickV at hp
  obtain ⟨r, hr, rfl⟩ := List.mem_map.1 hp
  rw [List.mem_filter, List.mem_range] at hr
  have h := hI _ (getD_mem hr.1)
  unfold okI at h
  show -9223372036854775808 ≤ (cs.getD r C3.df).i ∧ (cs.getD r C3.df).i ≤ 9223372036854775807
  omega
/-- two pieces' Parts are put together -/
theorem split_merge (cs : List C3) (fl : List Bool) (k : Nat) (hk : k ≤ cs.length) (hl : cs.length ≤ 65536) (hI : ∀ x ∈ cs, okI x.i) :
    mergeP (refP (pickV (cs.take k) (fun i => (fl.take k).getD i false))) (refP (pickV (cs.drop k) (fun i => (fl.drop k).getD i false))) = refP (pickV cs (fun i => fl.getD i false)) := by
  have h1 := refP_part (pickV (cs.take k) (fun i => (fl.take k).getD i false))
  have h2 := refP_part (pickV (cs.drop k) (fun i => (fl.drop k).getD i false))
  have l1 := pick_len (cs.take k) (fun i => (fl.take k).getD i false)
  have l2 := pick_len (cs.drop k) (fun i => (fl.drop k).getD i false)
  rw [List.length_take] at l1
  rw [List.length_drop] at l2
  have hs := pickV_split cs fl k hk
  have hm := h1.merge h2 (by rw [List.length_map, List.length_map]; omega) (by rw [← List.map_append, ← hs]; exact pick_bd hI _)
  rw [← List.map_append, ← hs] at hm
  refine hm.unique (refP_part _) (List.Perm.refl _) ?_
  intro c hc
  obtain ⟨p, _, rfl⟩ := List.mem_map.1 hc
  rfl
/-- what the law's loop has counted -/
structure FsSt (vs : List PV) (ct : Int) (lo : Nat) (sm gr : C3) : Prop where
  ct : ct = (vs.length : Int)
  lo : (lo : Int) = sumI (vs.map pcC) % 18446744073709551616
  nil : vs = [] → sm = C3.df ∧ gr = C3.df
  smm : vs ≠ [] → sm ∈ vs.map pcC
  grm : vs ≠ [] → gr ∈ vs.map pcC
  sml : ∀ c ∈ vs.map pcC, lessC c sm = false
  grl : ∀ c ∈ vs.map pcC, lessC gr c = false
theorem FsSt.start : FsSt [] 0 0 C3.df C3.df := ⟨rfl, rfl, fun _ => ⟨rfl, rfl⟩, fun h => absurd rfl h, fun h => absurd rfl h, fun _ h => (by cases h), fun _ h => (by cases h)⟩
theorem FsSt.done {vs : List PV} {ct : Int} {lo : Nat} {sm gr : C3} (h : FsSt vs ct lo sm gr) : (refP vs).ct = ct ∧ (refP vs).lo = lo ∧ (refP vs).mn = sm ∧ (refP vs).mx = gr := by
  have hp := refP_part vs
  have h1 := hp.ct
  have h2 := hp.sm
  have h3 := hp.lo
  have h4 := h.lo
  refine ⟨by rw [h1, h.ct, List.length_map], by omega, ?_, ?_⟩
  · by_cases e : vs = []
    · rw [hp.nil (by rw [e]; rfl), (h.nil e).1]; rfl
    · have e2 : vs.map pcC ≠ [] := by simpa using e
      refine lessC_antisymm (h.sml _ (hp.mnm e2)) (hp.mn _ (h.smm e)) ?_
      obtain ⟨p, _, hp2⟩ := List.mem_map.1 (hp.mnm e2)
      obtain ⟨q, _, hq2⟩ := List.mem_map.1 (h.smm e)
      rw [← hp2, ← hq2]; rfl
  · by_cases e : vs = []
    · rw [hp.nil (by rw [e]; rfl), (h.nil e).2]; rfl
    · have e2 : vs.map pcC ≠ [] := by simpa using e
      refine lessC_antisymm (hp.mx _ (h.grm e)) (h.grl _ (hp.mxm e2)) ?_
      obtain ⟨p, _, hp2⟩ := List.mem_map.1 (hp.mxm e2)
      obtain ⟨q, _, hq2⟩ := List.mem_map.1 (h.grm e)
      rw [← hp2, ← hq2]; rfl
theorem lessC_same {a b : C3} (h : a.s = b.s) : lessC a b = decide (a.i < b.i) := by
  unfold lessC
  have : ltB a.s b.s = false := by rw [h]; exact bytesLess_self _
  rw [this]; simp
theorem FsSt.step {vs : List PV} {ct : Int} {lo : Nat} {sm gr : C3} (h : FsSt vs ct lo sm gr) (p : PV) (hs : ∀ v ∈ vs, v.2 = ByteArray.empty) (hp : p.2 = ByteArray.empty) :
    FsSt (vs ++ [p]) (ct + 1) ((lo + (p.1 % 18446744073709551616).toNat) % 18446744073709551616) (if ct = 0 ∨ p.1 < sm.i then pcC p else sm) (if ct = 0 ∨ gr.i < p.1 then pcC p else gr) := by
  have hem : ∀ c ∈ vs.map pcC, c.s = ByteArray.empty := by
    intro c hc
    obtain ⟨v, hv, rfl⟩ := List.mem_map.1 hc
    exact hs v hv
  have hpe : (pcC p).s = ByteArray.empty := hp
  have hcz : ct = 0 ↔ vs = [] := by rw [h.ct, ← List.length_eq_zero_iff]; omega
  have hne : vs ++ [p] ≠ [] := by simp
  refine ⟨by rw [h.ct, List.length_append, List.length_singleton]; omega, ?_, fun e => absurd e hne, fun _ => ?_, fun _ => ?_, ?_, ?_⟩
  · have h4 := h.lo
    rw [List.map_append, sumI_append]
    have : sumI (List.map pcC [p]) = p.1 := by simp [sumI, pcC]
    rw [this]
    have h5 : 0 ≤ p.1 % 18446744073709551616 := Int.emod_nonneg _ (by decide)
    have h6 : p.1 % 18446744073709551616 < 18446744073709551616 := Int.emod_lt_of_pos _ (by decide)
    omega
  · rw [List.map_append, List.mem_append]
    split
    · right; simp
    · rename_i hc
      left
      exact h.smm (fun e => hc (.inl (hcz.2 e)))
  · rw [List.map_append, List.mem_append]
    split
    · right; simp
    · rename_i hc
      left
      exact h.grm (fun e => hc (.inl (hcz.2 e)))
  · intro c hc
    rw [List.map_append, List.mem_append] at hc
    by_cases e : vs = []
    · subst e
      rw [if_pos (.inl (hcz.2 rfl))]
      rcases hc with hc | hc
      · cases hc
      · simp at hc; subst hc; exact lessC_irrefl _
    · have hsm := hem _ (h.smm e)
      have hct : ct ≠ 0 := fun e2 => e (hcz.1 e2)
      by_cases hlt : p.1 < sm.i
      · rw [if_pos (.inr hlt)]
        rcases hc with hc | hc
        · have h7 := h.sml c hc
          rw [lessC_same (by rw [hem c hc, hsm])] at h7
          rw [lessC_same (by rw [hem c hc, hpe])]
          have h8 : ¬ c.i < sm.i := of_decide_eq_false h7
          exact decide_eq_false (by show ¬ c.i < p.1; omega)
        · simp at hc; subst hc; exact lessC_irrefl _
      · rw [if_neg (by intro hh; rcases hh with hh | hh; exact hct hh; exact hlt hh)]
        rcases hc with hc | hc
        · exact h.sml c hc
        · simp at hc; subst hc
          rw [lessC_same (by rw [hpe, hsm])]
          exact decide_eq_false hlt
  · intro c hc
    rw [List.map_append, List.mem_append] at hc
    by_cases e : vs = []
    · subst e
      rw [if_pos (.inl (hcz.2 rfl))]
      rcases hc with hc | hc
      · cases hc
      · simp at hc; subst hc; exact lessC_irrefl _
    · have hsm := hem _ (h.grm e)
      have hct : ct ≠ 0 := fun e2 => e (hcz.1 e2)
      by_cases hlt : gr.i < p.1
      · rw [if_pos (.inr hlt)]
        rcases hc with hc | hc
        · have h7 := h.grl c hc
          rw [lessC_same (by rw [hem c hc, hsm])] at h7
          rw [lessC_same (by rw [hem c hc, hpe])]
          have h8 : ¬ gr.i < c.i := of_decide_eq_false h7
          exact decide_eq_false (by show ¬ p.1 < c.i; omega)
        · simp at hc; subst hc; exact lessC_irrefl _
      · rw [if_neg (by intro hh; rcases hh with hh | hh; exact hct hh; exact hlt hh)]
        rcases hc with hc | hc
        · exact h.grl c hc
        · simp at hc; subst hc
          rw [lessC_same (by rw [hpe, hsm])]
          exact decide_eq_false hlt
theorem pickT_emp {cs : List C3} (h : ∀ c ∈ cs, c.s = ByteArray.empty) (F : Nat → Bool) (t : Nat) (ht : t ≤ cs.length) : ∀ v ∈ pickT cs F t, v.2 = ByteArray.empty := by
  intro v hv
  unfold pickT at hv
  obtain ⟨r, hr, rfl⟩ := List.mem_map.1 hv
  rw [List.mem_filter, List.mem_range] at hr
  exact h _ (getD_mem (by omega))
theorem ofK_nulZ : ofK 1 ⟨true, 0, ByteArray.empty⟩ = true := by decide +kernel
theorem ofK_intZ (x : Int) : ofK 1 ⟨false, x, ByteArray.empty⟩ = true := by
  have e : ByteArray.empty.toList.isEmpty = true := by decide +kernel
  unfold ofK
  simp only [Bool.false_eq_true, if_false, if_true, e]
theorem intC_okZ (xs : List Int) (ns : List Bool) (n : Nat) : ∀ c ∈ intC xs ns n, ofK 1 c = true := by
  intro c hc
  unfold intC at hc
  obtain ⟨i, _, rfl⟩ := List.mem_map.1 hc
  split
  · exact ofK_nulZ
  · exact ofK_intZ _
theorem intC_okIZ {xs : List Int} (h : ∀ x ∈ xs, okI x) (ns : List Bool) (n : Nat) : ∀ c ∈ intC xs ns n, okI c.i := by
  have hz : okI 0 := by unfold okI; omega
  intro c hc
  unfold intC at hc
  obtain ⟨i, _, rfl⟩ := List.mem_map.1 hc
  split
  · exact hz
  · simp only
    by_cases hi : i < xs.length
    · exact h _ (by simp [List.getD, hi])
    · rw [show xs.getD i 0 = 0 by simp [List.getD, List.getElem?_eq_none (show xs.length ≤ i by omega)]]
      exact hz
theorem intC_empZ (xs : List Int) (ns : List Bool) (n : Nat) : ∀ c ∈ intC xs ns n, c.s = ByteArray.empty := by
  intro c hc
  unfold intC at hc
  obtain ⟨i, _, rfl⟩ := List.mem_map.1 hc
  split <;> rfl
theorem valsT_leZ (cs : List C3) (h : ∀ c ∈ cs, c.s = ByteArray.empty) : sumT (valsOf cs) = 0 := by
  induction cs with
  | nil => rfl
  | cons c r ih =>
    have h1 := ih (fun x hx => h x (List.mem_cons_of_mem _ hx))
    have h2 := h c (List.mem_cons_self ..)
    rw [show c :: r = [c] ++ r from rfl]
    unfold valsOf at h1 ⊢
    rw [List.filter_append, List.map_append, sumT_append, h1]
    cases hn : c.n <;> simp [hn, sumT, sumS, h2]
/-- a list cut at k: its front, its rear -/
theorem rd_front {w : World} {A : Option Addr} {n c sz : Nat} {vs : List Value} (h : Rd w (.slice A n c) n sz vs) (k : Nat) (hk : k ≤ n) : Rd w (.slice A k c) k sz (vs.take (k * sz)) := by
  have hl := h.1
  have hm : k * sz ≤ n * sz := Nat.mul_le_mul_right _ hk
  refine ⟨by rw [List.length_take]; omega, ?_⟩
  rcases h.2 with ⟨⟨A', hA'⟩, rfl⟩ | ⟨b, o, cap', hA', h1, h2, hs⟩
  · obtain rfl : k = 0 := by omega
    simp only [Value.slice.injEq] at hA'
    obtain ⟨rfl, -, rfl⟩ := hA'
    exact .inl ⟨⟨_, rfl⟩, rfl⟩
  · simp only [Value.slice.injEq] at hA'
    obtain ⟨rfl, -, rfl⟩ := hA'
    refine .inr ⟨b, o, _, rfl, by omega, h2, ?_⟩
    intro i v hv
    rw [List.getElem?_take] at hv
    split at hv
    · exact hs i v hv
    · cases hv
theorem rd_back {w : World} {A : Option Addr} {n c sz : Nat} {vs : List Value} (h : Rd w (.slice A n c) n sz vs) (k : Nat) (hk : k ≤ n) (hne : ¬ c = k) : Rd w (.slice (A.map fun x => x.add (k * sz)) (n - k) (c - k)) (n - k) sz (vs.drop (k * sz)) := by
  have hl := h.1
  refine ⟨by rw [List.length_drop, hl, Nat.sub_mul], ?_⟩
  rcases h.2 with ⟨⟨A', hA'⟩, rfl⟩ | ⟨b, o, cap', hA', h1, h2, hs⟩
  · simp only [Value.slice.injEq] at hA'
    omega
  · simp only [Value.slice.injEq] at hA'
    obtain ⟨rfl, -, rfl⟩ := hA'
    refine .inr ⟨b, o + k * sz, _, by rw [Option.map_some, addr_add], by omega, by omega, ?_⟩
    intro i v hv
    rw [List.getElem?_drop] at hv
    have := hs _ v hv
    rwa [← Nat.add_assoc] at this
theorem take_cells3 (cs : List C3) : ∀ k, (cells3 cs).take (k * 3) = cells3 (cs.take k) := by
  induction cs with
  | nil => intro k; simp [cells3]
  | cons c r ih =>
    intro k
    cases k with
    | zero => simp [cells3]
    | succ k =>
      rw [cells3_cons, List.take_succ_cons, cells3_cons, ← ih k]
      have e : (k + 1) * 3 = c.vs.length + k * 3 := by simp [C3.vs]; omega
      rw [e, List.take_length_add_append]
theorem drop_cells3 (cs : List C3) : ∀ k, (cells3 cs).drop (k * 3) = cells3 (cs.drop k) := by
  induction cs with
  | nil => intro k; simp [cells3]
  | cons c r ih =>
    intro k
    cases k with
    | zero => simp
    | succ k =>
      rw [cells3_cons, List.drop_succ_cons, ← ih k]
      have e : (k + 1) * 3 = c.vs.length + k * 3 := by simp [C3.vs]; omega
      rw [e, List.drop_length_add_append]
end Go.Proofs.YthonbfojpbfmgaaGreatDoor
