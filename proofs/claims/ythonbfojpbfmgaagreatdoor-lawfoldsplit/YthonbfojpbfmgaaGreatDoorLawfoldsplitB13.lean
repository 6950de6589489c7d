/- Package chunk: a body looked through. -/
import Derived.Test.YthonbfojpbfmgaaGreatDoorLawfoldsplitB12
import Derived.Test.YthonbfojpbfmgaaGreatDoorLawfoldsplitB10
import Derived.Test.YthonbfojpbfmgaaGreatDoorLawfoldsplitB3
import Derived.Test.YthonbfojpbfmgaaGreatDoorLawfoldsplitB11
import Derived.Test.YthonbfojpbfmgaaGreatDoorLawfoldsplitB6
import Derived.Test.YthonbfojpbfmgaaGreatDoorLawfoldsplitB7
import Derived.Laws.StructEq
set_option linter.unusedVariables false
set_option linter.unusedSimpArgs false
set_option linter.unnecessarySimpa false
set_option maxRecDepth 100000
namespace Go.Proofs.YthonbfojpbfmgaaGreatDoor
open Go.RowKit

def zeroCk_S : List Value := [i64 0, i64 0, i64 0, nilS, i64 0, nilS, nilS, i64 0, nilS, .nilIface, nilS]
/-- where a look stands: the result's block a, the reader's gr, the chunk's g -/
structure St_S (W w0 w : World) (a gr g : Nat) (cs : List Value) (xs : List Nat) (s : Bool) : Prop where
  rowc : Row w g 94 cs
  rowa : Row w a 94 zeroCk_S
  rdr : RdrAt w0 w gr xs s
  bel : Below W.heap.size W w
  ha : W.heap.size ≤ a
  hr : W.heap.size ≤ gr
  hg : W.heap.size ≤ g
  h0 : w0.heap.size ≤ g
  n1 : g ≠ gr
  n2 : a ≠ g
  n3 : a ≠ gr
theorem St_S.store {W w0 w : World} {a gr g : Nat} {cs : List Value} {xs : List Nat} {s : Bool} (h : St_S W w0 w a gr g cs xs s) (f : Nat) (v : Value) : St_S W w0 (w.setCell ⟨g, f, none⟩ v) a gr g (cs.set f v) xs s := by
  have hch := (Chg.refl g g w).setCell g f v (.inl rfl)
  exact ⟨h.rowc.set f v, hch.row h.rowa h.n2 h.n2, h.rdr.chg hch (Ne.symm h.n1) (Ne.symm h.n1) h.h0 h.h0, below_set h.bel _ _ _ h.hg, h.ha, h.hr, h.hg, h.h0, h.n1, h.n2, h.n3⟩
theorem St_S.step {W w0 w w' : World} {a gr g : Nat} {cs : List Value} {xs ys : List Nat} {s t : Bool} (h : St_S W w0 w a gr g cs xs s) (hc : Chg gr gr w w') (hr : RdrAt w0 w' gr ys t) : St_S W w0 w' a gr g cs ys t :=
  ⟨hc.row h.rowc h.n1 h.n1, hc.row h.rowa h.n3 h.n3, hr, hc.below h.bel h.bel.size h.hr h.hr, h.ha, h.hr, h.hg, h.h0, h.n1, h.n2, h.n3⟩
theorem St_S.mono {W w0 w w' : World} {a gr g : Nat} {cs : List Value} {xs : List Nat} {s : Bool} (h : St_S W w0 w a gr g cs xs s) (hb : Below w.heap.size w w') : St_S W w0 w' a gr g cs xs s :=
  ⟨h.rowc.mono hb, h.rowa.mono hb, h.rdr.mono hb, h.bel.trans (hb.mono h.bel.size), h.ha, h.hr, h.hg, h.h0, h.n1, h.n2, h.n3⟩
theorem St_S.both {W w0 w w' : World} {a gr g : Nat} {cs ds : List Value} {xs ys : List Nat} {s t : Bool} (h : St_S W w0 w a gr g cs xs s) (hc : Chg g gr w w') (hd : Row w' g 94 ds) (hr : RdrAt w0 w' gr ys t) : St_S W w0 w' a gr g ds ys t :=
  ⟨hd, hc.row h.rowa h.n2 h.n3, hr, hc.below h.bel h.bel.size h.hg h.hr, h.ha, h.hr, h.hg, h.h0, h.n1, h.n2, h.n3⟩

theorem outPay_left_S (cd : Nat) (wd : Int) (k : Nat) (xs : List Nat) (s : Bool) : (outPay_S cd wd k xs s).left.length ≤ xs.length := by
  have h1 : ∀ n ys, (tkL n ys).length ≤ ys.length := tkL_le
  have hP : (outPlain_S wd k xs s).left.length ≤ xs.length := (rd_left_S k xs s).1
  have hD : (outDict_S wd k xs s).left.length ≤ xs.length := by
    unfold outDict_S
    split
    · exact h1 _ _
    · have hr := (rd_left_S (L.wordOf 8 (tk 4 xs)) (tkL 4 xs) (tkS 4 xs s)).1
      generalize rdS (L.wordOf 8 (tk 4 xs)) (tkL 4 xs) (tkS 4 xs s) = R at *
      obtain ⟨vals, ok, xl, s1⟩ := R
      simp only at *
      split
      · exact Nat.le_trans (h1 _ _) (Nat.le_trans hr (h1 _ _))
      · exact Nat.le_trans hr (h1 _ _)
  have hR : (outRuns_S wd k xs s).left.length ≤ xs.length := by
    unfold outRuns_S
    split
    · exact Nat.le_trans (h1 _ _) (h1 _ _)
    · have hr := (rd_left_S (L.wordOf 8 (tk 4 xs)) (tkL (4 * L.wordOf 8 (tk 4 xs)) (tkL 4 xs)) (tkS (4 * L.wordOf 8 (tk 4 xs)) (tkL 4 xs) (tkS 4 xs s))).1
      generalize rdS (L.wordOf 8 (tk 4 xs)) (tkL (4 * L.wordOf 8 (tk 4 xs)) (tkL 4 xs)) (tkS (4 * L.wordOf 8 (tk 4 xs)) (tkL 4 xs) (tkS 4 xs s)) = R at *
      obtain ⟨vals, ok, xl, s1⟩ := R
      exact Nat.le_trans hr (Nat.le_trans (h1 _ _) (h1 _ _))
  unfold outPay_S
  repeat' split
  all_goals first | exact hP | exact hD | exact hR | exact h1 _ _ | exact Nat.le_trans (h1 _ _) (h1 _ _)
/-- the eleven cells of a chunk's block -/
theorem row11_S {w : World} {a : Nat} {e : TypeId} {v0 v1 v2 v3 v4 v5 v6 v7 v8 v9 v10 : Value} (h : Row w a e [v0, v1, v2, v3, v4, v5, v6, v7, v8, v9, v10]) :
    w.cell? ⟨a, 0, none⟩ = some v0 ∧ w.cell? ⟨a, 1, none⟩ = some v1 ∧ w.cell? ⟨a, 2, none⟩ = some v2 ∧ w.cell? ⟨a, 3, none⟩ = some v3 ∧ w.cell? ⟨a, 4, none⟩ = some v4 ∧ w.cell? ⟨a, 5, none⟩ = some v5 ∧
    w.cell? ⟨a, 6, none⟩ = some v6 ∧ w.cell? ⟨a, 7, none⟩ = some v7 ∧ w.cell? ⟨a, 8, none⟩ = some v8 ∧ w.cell? ⟨a, 9, none⟩ = some v9 ∧ w.cell? ⟨a, 10, none⟩ = some v10 := by
  refine ⟨?_, ?_, ?_, ?_, ?_, ?_, ?_, ?_, ?_, ?_, ?_⟩ <;> (rw [h.cell]; rfl)
theorem frz11_S {w : World} {a : Nat} {e : TypeId} {cs : List Value} (h : Row w a e cs) :
    w.frozen? ⟨a, 0, none⟩ = false ∧ w.frozen? ⟨a, 1, none⟩ = false ∧ w.frozen? ⟨a, 2, none⟩ = false ∧ w.frozen? ⟨a, 3, none⟩ = false ∧ w.frozen? ⟨a, 4, none⟩ = false ∧ w.frozen? ⟨a, 5, none⟩ = false ∧
    w.frozen? ⟨a, 6, none⟩ = false ∧ w.frozen? ⟨a, 7, none⟩ = false ∧ w.frozen? ⟨a, 8, none⟩ = false ∧ w.frozen? ⟨a, 9, none⟩ = false ∧ w.frozen? ⟨a, 10, none⟩ = false :=
  ⟨h.frozen 0, h.frozen 1, h.frozen 2, h.frozen 3, h.frozen 4, h.frozen 5, h.frozen 6, h.frozen 7, h.frozen 8, h.frozen 9, h.frozen 10⟩

def knum_S : Int := 2
def cmax_S : Nat := 3
def lkBase_S (rows : Nat) (xs : List Nat) : Int := 0
def lkOut_S (rows : Nat) (xs : List Nat) : Out_S := outPay_S (headOf rows xs).codec (headOf rows xs).wd (cntOf rows (headOf rows xs).nulls) (headOf rows xs).left (headOf rows xs).short
def lkOk_S (rows : Nat) (xs : List Nat) : Bool := headOk knum_S rows (headOf rows xs) && ((lkOut_S rows xs).b && (!(lkOut_S rows xs).short && decide ((lkOut_S rows xs).left = [])))

set_option maxHeartbeats 16000000 in
theorem Look_S (w : World) (v : Value) (xs : List Nat) (rows : Nat) (hT : Tab w) (hv : Rd w v xs.length 1 (u8s xs)) (hb : ∀ x ∈ xs, x < 256) (hl : xs.length ≤ 16777216) (hrr : rows ≤ 65536) :
    Calls Tryz.prog 49 #[.iface 66 (.agg #[]), .int .i64 rows, v] w fun e w' => Below w.heap.size w w' ∧
      ((lkOk_S rows xs = false ∧ e = .returned (.tuple #[.agg zeroCk_S.toArray, .bool false])) ∨
       (lkOk_S rows xs = true ∧ ∃ nu lv ev nv bef, e = .returned (.tuple #[.agg (ck_S rows (headOf rows xs).codec (headOf rows xs).wd nu (cntOf rows (headOf rows xs).nulls) lv ev (lkBase_S rows xs) nv kind_S bef).toArray, .bool true]) ∧
          w'.ownsRow w.heap.size 40 1 nu (headOf rows xs).nulls.length (u64s (headOf rows xs).nulls) ∧ Rd w' lv (lkOut_S rows xs).list.length 1 (lstS (lkOut_S rows xs).list) ∧ Rd w' ev (lkOut_S rows xs).ends.length 1 (nIs (lkOut_S rows xs).ends) ∧
          Rd w' nv (lkOut_S rows xs).lanes.length 1 (u64s (lkOut_S rows xs).lanes) ∧ Rd w' bef (headOf rows xs).nulls.length 1 (i64s (befL (headOf rows xs).nulls)))) := by
  have HT := hid hT
  have HTL := hid hT.lt
  have HV := hid hv
  obtain ⟨A0, c0, rfl, _, _, _⟩ := hv.form
  clear hT hv
  obtain ⟨OK, hOK⟩ : ∃ OK, lkOk_S rows xs = OK := ⟨_, rfl⟩
  rw [hOK]
  have HOK := hid hOK
  unfold lkOk_S headOk lkOut_S at HOK
  obtain ⟨H, hH⟩ : ∃ H, headOf rows xs = H := ⟨_, rfl⟩
  have HH := hid hH
  rw [hH] at HOK ⊢
  obtain ⟨O, hO⟩ : ∃ O, lkOut_S rows xs = O := ⟨_, rfl⟩
  have HO := hid hO
  unfold lkOut_S at HO
  rw [hH] at HO
  rw [HO.out] at HOK
  rw [hO]
  obtain ⟨bs, hbs⟩ : ∃ bs, lkBase_S rows xs = bs := ⟨_, rfl⟩
  have HBS := hid hbs
  unfold lkBase_S at HBS
  rw [hbs]
  clear hOK hH hO hbs
  obtain ⟨cd, wd, nulls, x3, t3⟩ := H
  simp only at *
  have hcd : L.wordOf 8 (tk 1 xs) = cd := by have := HH.out; simp only [headOf, Head.mk.injEq] at this; exact this.1
  have hwd : L.wordOf 8 (tk 1 (tkL 1 xs)) = wd := by have := HH.out; simp only [headOf, Head.mk.injEq] at this; exact this.2.1
  have hnu : numL 8 (tk (8 * ((rows + 63) / 64)) (tkL 1 (tkL 1 xs))) = nulls := by have := HH.out; simp only [headOf, Head.mk.injEq] at this; exact this.2.2.1
  have hx3 : tkL (8 * ((rows + 63) / 64)) (tkL 1 (tkL 1 xs)) = x3 := by have := HH.out; simp only [headOf, Head.mk.injEq] at this; exact this.2.2.2.1
  have ht3 : tkS (8 * ((rows + 63) / 64)) (tkL 1 (tkL 1 xs)) (tkS 1 (tkL 1 xs) (tkS 1 xs false)) = t3 := by have := HH.out; simp only [headOf, Head.mk.injEq] at this; exact this.2.2.2.2
  obtain ⟨x1, hx1⟩ : ∃ x1, tkL 1 xs = x1 := ⟨_, rfl⟩
  obtain ⟨t1, ht1⟩ : ∃ t1, tkS 1 xs false = t1 := ⟨_, rfl⟩
  rw [hx1] at hwd hnu hx3 ht3
  rw [ht1] at ht3
  obtain ⟨x2, hx2⟩ : ∃ x2, tkL 1 x1 = x2 := ⟨_, rfl⟩
  obtain ⟨t2, ht2⟩ : ∃ t2, tkS 1 x1 t1 = t2 := ⟨_, rfl⟩
  rw [hx2] at hnu hx3 ht3
  rw [ht2] at ht3
  obtain ⟨m, hm⟩ : ∃ m, (rows + 63) / 64 = m := ⟨_, rfl⟩
  rw [hm] at hnu hx3 ht3
  have hm' : ((rows : Int) + 63) / 64 = (m : Int) := by omega
  have hl1 : x1.length ≤ 16777216 := by rw [← hx1]; exact Nat.le_trans (tkL_le _ _) hl
  have hb1 : ∀ x ∈ x1, x < 256 := by rw [← hx1]; exact tkL_lt hb
  have hl2 : x2.length ≤ 16777216 := by rw [← hx2]; exact Nat.le_trans (tkL_le _ _) hl1
  have hb2 : ∀ x ∈ x2, x < 256 := by rw [← hx2]; exact tkL_lt hb1
  have hl3 : x3.length ≤ 16777216 := by rw [← hx3]; exact Nat.le_trans (tkL_le _ _) hl2
  have hb3 : ∀ x ∈ x3, x < 256 := by rw [← hx3]; exact tkL_lt hb2
  have hnv : ∀ x ∈ nulls, x < 18446744073709551616 := by rw [← hnu]; exact numL_lt (tk_lt hb2) (by omega)
  have hnl : nulls.length ≤ 2097152 := by
    rw [← hnu, numL_length]; unfold tk; split
    · rw [List.length_take]; omega
    · simp
  have HBY1 := hid (fun (w0 w : World) (g : Nat) (h : RdrAt w0 w g xs false) => Byte_any w0 w g xs false h hb hl)
  rw [hcd, hx1, ht1] at HBY1
  have HBY2 := hid (fun (w0 w : World) (g : Nat) (h : RdrAt w0 w g x1 t1) => Byte_any w0 w g x1 t1 h hb1 hl1)
  rw [hwd, hx2, ht2] at HBY2
  have HU := hid (fun (w0 w : World) (g : Nat) (h : RdrAt w0 w g x2 t2) (hg : g < w.heap.size) => U64s_any w0 w g x2 t2 m h hg hb2 hl2 (by omega))
  rw [hnu, hx3, ht3] at HU
  have HRK := hid (fun (w : World) (v : Value) (h : Rd w v nulls.length 1 (u64s nulls)) => Rank_any v nulls rows rows w h hnv (by unfold maxLen; omega))
  obtain ⟨rk, hrk⟩ : ∃ rk, rankR rows rows nulls = rk := ⟨_, rfl⟩
  rw [hrk] at HRK
  have HRKE := hid hrk
  obtain ⟨k, hk⟩ : ∃ k, cntOf rows nulls = k := ⟨_, rfl⟩
  rw [hk] at HO ⊢
  have HK := hid hk
  clear hcd hwd hnu hx3 ht3 hx1 ht1 hx2 ht2 hm hrk HH hk
  go_enter Tryz.func49, Tryz.ntmps49
  go_wp2_with fail
  have hbA : Below w.heap.size w (w.alloc (.cells zeroCk_S.toArray 94)) := (brefl w).alloc (Nat.le_refl _) _
  have hrA : Row (w.alloc (.cells zeroCk_S.toArray 94)) w.heap.size 94 zeroCk_S := by unfold Row; rw [heap_alloc_new]
  have hsA : (w.alloc (.cells zeroCk_S.toArray 94)).heap.size = w.heap.size + 1 := by simp
  change Calls _ _ _ (w.alloc (.cells zeroCk_S.toArray 94)) _
  generalize w.alloc (.cells zeroCk_S.toArray 94) = w1 at *
  have HV1 := hid (HV.out.mono hbA)
  refine (NewReader_any w1 _ xs HV1.out).mono ?_
  rintro e w2 ⟨rfl, hat, hb2, hsz2⟩
  have HAT := hid hat
  have HBA := hid hbA; have HRA := hid hrA
  have HB2 := hid hb2
  clear hat hbA hrA hb2
  go_wp2_with fail
  have hbC : Below w2.heap.size w2 (w2.alloc (.cells (ck_S rows 0 0 nilS 0 nilS nilS 0 nilS kind_S nilS).toArray 94)) := (brefl w2).alloc (Nat.le_refl _) _
  have hrC : Row (w2.alloc (.cells (ck_S rows 0 0 nilS 0 nilS nilS 0 nilS kind_S nilS).toArray 94)) w2.heap.size 94 (ck_S rows 0 0 nilS 0 nilS nilS 0 nilS kind_S nilS) := by unfold Row; rw [heap_alloc_new]
  change Calls _ _ _ (w2.alloc (.cells (ck_S rows 0 0 nilS 0 nilS nilS 0 nilS kind_S nilS).toArray 94)) _
  generalize w2.alloc (.cells (ck_S rows 0 0 nilS 0 nilS nilS 0 nilS kind_S nilS).toArray 94) = w3 at *
  have HS3 : Hid (St_S w w1 w3 w.heap.size (w.heap.size + 1) (w.heap.size + 1 + 1) (ck_S rows 0 0 nilS 0 nilS nilS 0 nilS kind_S nilS) xs false) := by
    refine hid ⟨?_, (HRA.out.mono HB2.out).mono hbC, ?_, HBA.out.trans ((bthen HB2.out hbC).mono (by omega)), by omega, by omega, by omega, by omega, by omega, by omega, by omega⟩
    · have : w2.heap.size = w.heap.size + 1 + 1 := by omega
      rw [this] at hrC; exact hrC
    · have h1 := HAT.out.mono hbC
      rw [hsA] at h1; exact h1
  have HT1 := hid (HT.out.mono HBA.out HTL.out)
  clear hbC hrC HAT HBA HRA HB2 HV1 HV HT
  obtain ⟨g, hg⟩ : ∃ g, w.heap.size + 1 + 1 = g := ⟨_, rfl⟩
  rw [hg] at HS3 ⊢
  obtain ⟨gr, hgr⟩ : ∃ gr, w.heap.size + 1 = gr := ⟨_, rfl⟩
  rw [hgr] at HS3 ⊢
  obtain ⟨a, ha⟩ : ∃ a, w.heap.size = a := ⟨_, rfl⟩
  have HA := hid ha
  have HS3' : Hid (St_S w w1 w3 a gr g (ck_S rows 0 0 nilS 0 nilS nilS 0 nilS kind_S nilS) xs false) := hid (by rw [← HA.out]; exact HS3.out)
  rw [ha]
  clear HS3 hg hgr ha hsz2 hsA
  refine (HBY1.out w1 w3 gr HS3'.out.rdr).mono ?_
  rintro e w4 ⟨rfl, hr4, hc4⟩
  have HS4 := hid (HS3'.out.step hc4 hr4)
  have e1 : w4.cell? ⟨g, 0 + 1, none⟩ = some (.int .i64 0) := by rw [HS4.out.rowc.cell]; rfl
  have f1 := HS4.out.rowc.frozen (0 + 1)
  clear hr4 hc4 HS3'
  have HS5 := hid (HS4.out.store 1 (.int .i64 cd))
  go_wp2_with fail
  clear e1 f1 HS4
  generalize w4.setCell ⟨g, 1, none⟩ (.int .i64 cd) = w5 at *
  refine (HBY2.out w1 w5 gr HS5.out.rdr).mono ?_
  rintro e w6 ⟨rfl, hr6, hc6⟩
  have HS6 := hid (HS5.out.step hc6 hr6)
  have e1 : w6.cell? ⟨g, 0 + 2, none⟩ = some (.int .i64 0) := by rw [HS6.out.rowc.cell]; rfl
  have f1 := HS6.out.rowc.frozen (0 + 2)
  clear hr6 hc6 HS5
  have HS7 := hid (HS6.out.store 2 (.int .i64 wd))
  go_wp2_with fail
  clear e1 f1 HS6
  generalize w6.setCell ⟨g, 2, none⟩ (.int .i64 wd) = w7 at *
  have hgr7 := HS7.out.rdr.lt
  have hg7 := HS7.out.rowc.lt
  have ha7 := HS7.out.rowa.lt
  refine (HU.out w1 w7 gr HS7.out.rdr hgr7).mono ?_
  rintro e w8 ⟨p, hp, rfl, hrow8, hr8, hc8⟩
  have HS8 := hid (HS7.out.step hc8 hr8)
  have e1 : w8.cell? ⟨g, 0 + 3, none⟩ = some nilS := by rw [HS8.out.rowc.cell]; rfl
  have f1 := HS8.out.rowc.frozen (0 + 3)
  have hpg : p ≠ g := by omega
  have hpgr : p ≠ gr := by omega
  have hpW : w.heap.size ≤ p := by have := HS7.out.ha; omega
  have hpa : p ≠ a := by omega
  have HR8 := hid (((Chg.refl g g w8).setCell g 3 (.slice (some ⟨p, 0, none⟩) nulls.length nulls.length) (.inl rfl)).row hrow8 hpg hpg)
  clear hrow8 hr8 hc8 HS7 hp hg7 ha7 hgr7
  have HS9 : Hid (St_S w w1 (w8.setCell ⟨g, 3, none⟩ (.slice (some ⟨p, 0, none⟩) nulls.length nulls.length)) a gr g (ck_S rows cd wd (.slice (some ⟨p, 0, none⟩) nulls.length nulls.length) 0 nilS nilS 0 nilS kind_S nilS) x3 t3) := hid (HS8.out.store 3 (.slice (some ⟨p, 0, none⟩) nulls.length nulls.length))
  go_upto_region 6 with fail
  clear e1 f1 HS8 HU HBY1 HBY2
  generalize w8.setCell ⟨g, 3, none⟩ (.slice (some ⟨p, 0, none⟩) nulls.length nulls.length) = w9 at *
  have e3 : w9.cell? ⟨g, 0 + 3, none⟩ = some (.slice (some ⟨p, 0, none⟩) nulls.length nulls.length) := by rw [HS9.out.rowc.cell]; rfl
  go_wp2_with fail
  refine (HRK.out w9 _ (HR8.out.rd' (n := nulls.length) (by simp [u64s]) (by unfold maxLen; omega))).mono ?_
  rintro e wA ⟨rfl, nA, rfl⟩
  have HSA := hid (HS9.out.mono (bdrew (brefl w9) nA))
  have HRA := hid (HR8.out.drewN nA)
  go_upto_region 7 with fail
  clear e3 HS9 HR8 HRK
  generalize w9.drewN nA = wA at *
  have hAC : wA.cell? ⟨g, 1, none⟩ = some (.int .i64 cd) := by rw [HSA.out.rowc.cell]; rfl
  cases hok : okPack 1 rows nulls with
  | false =>
    obtain rfl : rk = -1 := by rw [← HRKE.out, rankR, if_neg (by rw [hok]; simp)]
    obtain rfl : OK = false := by rw [← HOK.out, hok]; rfl
    go_quiet (fail)
    have HSB := hid (HSA.out.mono (bdrew (brefl wA) nq))
    generalize wA.drewN nq = wB at *
    obtain ⟨z0, z1, z2, z3, z4, z5, z6, z7, z8, z9, z10⟩ := row11_S HSB.out.rowa
    obtain ⟨f0, f1, f2, f3, f4, f5, f6, f7, f8, f9, f10⟩ := frz11_S HSB.out.rowa
    go_wp2_with fail
    clear z0 z1 z2 z3 z4 z5 z6 z7 z8 z9 z10 f0 f1 f2 f3 f4 f5 f6 f7 f8 f9 f10
    change bodyPost _ _ _ _ _ (setL wB a 0 zeroCk_S)
    have HRF := hid (row_setL0 HSB.out.rowa zeroCk_S rfl)
    have HBF := hid (below_setL a HSB.out.ha zeroCk_S wB 0 HSB.out.bel)
    generalize setL wB a 0 zeroCk_S = wF at *
    obtain ⟨z0, z1, z2, z3, z4, z5, z6, z7, z8, z9, z10⟩ := row11_S HRF.out
    refine bodyPost_ret (v := .tuple #[.agg zeroCk_S.toArray, .bool false]) ?_ rfl ⟨HBF.out, by first | exact .inl ⟨rfl, rfl⟩ | rfl⟩
    simp [results, Tryz.results49, go_sem, z0, z1, z2, z3, z4, z5, z6, z7, z8, z9, z10]
    rfl
  | true =>
    have hrn : rk = ((rankN nulls rows : Nat) : Int) := by rw [← HRKE.out, rankR, if_pos ⟨hok, by omega, by omega⟩]; simp
    have hnr : rankN nulls rows ≤ rows := by unfold rankN; have := List.length_filter_le (bitOf nulls) (List.range rows); rwa [List.length_range] at this
    have hct : k = rows - rankN nulls rows := HK.out.symm
    obtain ⟨n, hn⟩ : ∃ n, rankN nulls rows = n := ⟨_, rfl⟩
    rw [hn] at hrn hnr hct
    subst hrn
    have hok2 := HOK.out
    rw [hok, Bool.true_and] at hok2
    have HOK2 := hid hok2
    have hneg : ¬ ((n : Int) < 0) := by omega
    have hkc : (rows : Int) - (n : Int) = (k : Int) := by omega
    have hkk : k ≤ 65536 := by omega
    have hmn := m_Number_S
    have hnl2 : nulls.length ≤ 65536 := by rw [((okPack_nat (wd := 1) (n := rows) nulls (by decide) hrr).1 hok).1]; exact Nat.le_trans (L.nWords_le (by omega)) hrr
    have hgA : g < wA.heap.size := HSA.out.rowc.lt
    clear hok2 hok HRKE hn hct
    generalize hic : isCodec knum_S cd = ic at *
    have HIC := hid (fun w2 : World => IsCodec_any knum_S cd w2)
    rw [hic] at HIC
    have HICE := hid hic
    clear hic
    unfold knum_S at HIC
    go_region_held3 (fun w' => w'.cell? ⟨g, 1, none⟩ = some (.int .i64 cd)) (go_keep)
      (first
        | (go_at_call 266; refine (StrsNumber_any _).mono ?_; rintro e wN ⟨rfl, hbN⟩; have HSN := hid (HSA.out.mono ((bdrew (brefl wA) 1).trans hbN)); have HRN := hid (HRA.out.mono ((bdrew (brefl wA) 1).trans hbN)); have kN := (hbN.cell (p := ⟨g, 1, none⟩) hgA).trans hAC; clear hbN)
        | (go_at_call 74; refine (HIC.out _).mono ?_; rintro e wM ⟨rfl, hw⟩; replace hw := hw.symm; subst hw))
    clear hAC HSA HRA hmn HIC hneg
    cases ic with
    | false =>
      obtain rfl : OK = false := by rw [← HOK2.out]; rfl
      obtain ⟨z0, z1, z2, z3, z4, z5, z6, z7, z8, z9, z10⟩ := row11_S HSN.out.rowa
      obtain ⟨f0, f1, f2, f3, f4, f5, f6, f7, f8, f9, f10⟩ := frz11_S HSN.out.rowa
      go_wp2_with fail
      clear z0 z1 z2 z3 z4 z5 z6 z7 z8 z9 z10 f0 f1 f2 f3 f4 f5 f6 f7 f8 f9 f10
      change bodyPost _ _ _ _ _ (setL wN a 0 zeroCk_S)
      have HRF := hid (row_setL0 HSN.out.rowa zeroCk_S rfl)
      have HBF := hid (below_setL a HSN.out.ha zeroCk_S wN 0 HSN.out.bel)
      generalize setL wN a 0 zeroCk_S = wF at *
      obtain ⟨z0, z1, z2, z3, z4, z5, z6, z7, z8, z9, z10⟩ := row11_S HRF.out
      refine bodyPost_ret (v := .tuple #[.agg zeroCk_S.toArray, .bool false]) ?_ rfl ⟨HBF.out, by first | exact .inl ⟨rfl, rfl⟩ | rfl⟩
      simp [results, Tryz.results49, go_sem, z0, z1, z2, z3, z4, z5, z6, z7, z8, z9, z10]
      rfl
    | true =>
      have hok3 := HOK2.out
      rw [Bool.true_and] at hok3
      have HOK3 := hid hok3
      clear hok3 HOK2
      have hcdk : 1 ≤ cd ∧ cd ≤ cmax_S := by
        have h := HICE.out
        unfold isCodec knum_S cmax_S at *
        split at h
        · omega
        · simp only [decide_eq_true_eq] at h; omega
      have e4 : wN.cell? ⟨g, 0 + 4, none⟩ = some (.int .i64 0) := by rw [HSN.out.rowc.cell]; rfl
      have f4 := HSN.out.rowc.frozen (0 + 4)
      have HSP := hid (HSN.out.store 4 (.int .i64 k))
      have HRP := hid (((Chg.refl g g wN).setCell g 4 (.int .i64 k) (.inl rfl)).row HRN.out hpg hpg)
      clear HSN HRN kN HICE
      go_upto_region 10 with fail
      clear e4 f4
      generalize wN.setCell ⟨g, 4, none⟩ (.int .i64 k) = wP at *
      have e3 : wP.cell? ⟨g, 0 + 3, none⟩ = some (.slice (some ⟨p, 0, none⟩) nulls.length nulls.length) := by rw [HSP.out.rowc.cell]; rfl
      go_wp2_with fail
      refine (countBefore_any _ nulls wP (HRP.out.rd' (n := nulls.length) (by simp [u64s]) (by unfold maxLen; omega)) hnv hnl2).mono ?_
      rintro e wQ ⟨rfl, hrowB, hbQ⟩
      have hq1 : g < wP.heap.size := HSP.out.rowc.lt
      have hq2 : gr < wP.heap.size := HSP.out.rdr.lt
      have hq3 : a < wP.heap.size := HSP.out.rowa.lt
      have hq4 : w.heap.size ≤ wP.heap.size := HSP.out.bel.size
      have HSQ := hid (HSP.out.mono hbQ)
      have HRQ := hid (HRP.out.mono hbQ)
      have HBQ := hid hrowB
      obtain ⟨q, hq⟩ : ∃ q, wP.heap.size = q := ⟨_, rfl⟩
      rw [hq] at HBQ hq1 hq2 hq3 hq4 ⊢
      have hqg : q ≠ g := by omega
      have hqr : q ≠ gr := by omega
      have hqa : q ≠ a := by omega
      have e10 : wQ.cell? ⟨g, 0 + 10, none⟩ = some nilS := by rw [HSQ.out.rowc.cell]; rfl
      have f10 := HSQ.out.rowc.frozen (0 + 10)
      have HSR : Hid (St_S w w1 (wQ.setCell ⟨g, 10, none⟩ (.slice (some ⟨q, 0, none⟩) nulls.length nulls.length)) a gr g (ck_S rows cd wd (.slice (some ⟨p, 0, none⟩) nulls.length nulls.length) k nilS nilS 0 nilS kind_S (.slice (some ⟨q, 0, none⟩) nulls.length nulls.length)) x3 t3) := hid (HSQ.out.store 10 (.slice (some ⟨q, 0, none⟩) nulls.length nulls.length))
      have HRR := hid (((Chg.refl g g wQ).setCell g 10 (.slice (some ⟨q, 0, none⟩) nulls.length nulls.length) (.inl rfl)).row HRQ.out hpg hpg)
      have HBR := hid (((Chg.refl g g wQ).setCell g 10 (.slice (some ⟨q, 0, none⟩) nulls.length nulls.length) (.inl rfl)).row HBQ.out hqg hqg)
      clear hrowB hbQ HSP HRP HSQ HRQ HBQ hq e3
      go_upto_region 11 with fail
      clear e10 f10
      generalize wQ.setCell ⟨g, 10, none⟩ (.slice (some ⟨q, 0, none⟩) nulls.length nulls.length) = wR at *
      have HPAY := hid (readPayload_S w1 wR g gr x3 t3 rows wd cd k _ _ HT1.out HSR.out.rowc HSR.out.rdr HSR.out.n1 HSR.out.h0 HSR.out.rdr.lt hb3 hl3 hkk hcdk)
      rw [HO.out] at HPAY
      have hr1 : a < wR.heap.size := HSR.out.rowa.lt
      have hr2 : g < wR.heap.size := HSR.out.rowc.lt
      go_wp2_with fail
      refine HPAY.out.mono ?_
      rintro e wS ⟨rfl, hOA⟩
      obtain ⟨⟨lv, ev, nv, hck, hol, hoe, hon⟩, hrS, hcS⟩ := hOA
      rw [HBS.out] at hck
      have HSS := hid (HSR.out.both hcS hck hrS)
      have HRS := hid (hcS.row HRR.out hpg hpgr)
      have HBS2 := hid (hcS.row HBR.out hqg hqr)
      have HOL := hid hol; have HOE := hid hoe; have HON := hid hon
      have hOl : O.left.length ≤ 16777216 := by rw [← HO.out]; exact Nat.le_trans (outPay_left_S cd wd k x3 t3) hl3
      clear hck hol hoe hon hrS hcS HSR HRR HBR HPAY HO
      obtain ⟨ob, ol, os, oli, oen, ola⟩ := O
      simp only at *
      cases ob with
      | false =>
        obtain rfl : OK = false := by rw [← HOK3.out]; rfl
        obtain ⟨z0, z1, z2, z3, z4, z5, z6, z7, z8, z9, z10⟩ := row11_S HSS.out.rowa
        obtain ⟨f0, f1, f2, f3, f4, f5, f6, f7, f8, f9, f10⟩ := frz11_S HSS.out.rowa
        go_wp2_with fail
        clear z0 z1 z2 z3 z4 z5 z6 z7 z8 z9 z10 f0 f1 f2 f3 f4 f5 f6 f7 f8 f9 f10
        change bodyPost _ _ _ _ _ (setL wS a 0 zeroCk_S)
        have HRF := hid (row_setL0 HSS.out.rowa zeroCk_S rfl)
        have HBF := hid (below_setL a HSS.out.ha zeroCk_S wS 0 HSS.out.bel)
        generalize setL wS a 0 zeroCk_S = wF at *
        obtain ⟨z0, z1, z2, z3, z4, z5, z6, z7, z8, z9, z10⟩ := row11_S HRF.out
        refine bodyPost_ret (v := .tuple #[.agg zeroCk_S.toArray, .bool false]) ?_ rfl ⟨HBF.out, by first | exact .inl ⟨rfl, rfl⟩ | rfl⟩
        simp [results, Tryz.results49, go_sem, z0, z1, z2, z3, z4, z5, z6, z7, z8, z9, z10]
        rfl
      | true =>
        cases os with
        | true =>
          obtain rfl : OK = false := by rw [← HOK3.out]; rfl
          obtain ⟨z0, z1, z2, z3, z4, z5, z6, z7, z8, z9, z10⟩ := row11_S HSS.out.rowa
          obtain ⟨f0, f1, f2, f3, f4, f5, f6, f7, f8, f9, f10⟩ := frz11_S HSS.out.rowa
          go_wp2_with (go_at_call 83; refine (Short_any w1 _ gr _ true HSS.out.rdr).mono ?_; rintro e wT ⟨rfl, hw⟩; replace hw := hw.symm; subst hw)
          clear z0 z1 z2 z3 z4 z5 z6 z7 z8 z9 z10 f0 f1 f2 f3 f4 f5 f6 f7 f8 f9 f10
          change bodyPost _ _ _ _ _ (setL wS a 0 zeroCk_S)
          have HRF := hid (row_setL0 HSS.out.rowa zeroCk_S rfl)
          have HBF := hid (below_setL a HSS.out.ha zeroCk_S wS 0 HSS.out.bel)
          generalize setL wS a 0 zeroCk_S = wF at *
          obtain ⟨z0, z1, z2, z3, z4, z5, z6, z7, z8, z9, z10⟩ := row11_S HRF.out
          refine bodyPost_ret (v := .tuple #[.agg zeroCk_S.toArray, .bool false]) ?_ rfl ⟨HBF.out, by first | exact .inl ⟨rfl, rfl⟩ | rfl⟩
          simp [results, Tryz.results49, go_sem, z0, z1, z2, z3, z4, z5, z6, z7, z8, z9, z10]
          rfl
        | false =>
          by_cases hle : ol = []
          case neg =>
            obtain rfl : OK = false := by rw [← HOK3.out]; simp [hle]
            have hlp : 0 < ol.length := List.length_pos_iff.2 hle
            have hgt : (ol.length : Int) > 0 := by omega
            clear hle
            obtain ⟨z0, z1, z2, z3, z4, z5, z6, z7, z8, z9, z10⟩ := row11_S HSS.out.rowa
            obtain ⟨f0, f1, f2, f3, f4, f5, f6, f7, f8, f9, f10⟩ := frz11_S HSS.out.rowa
            go_wp2_with (first | (go_at_call 83; refine (Short_any w1 _ gr _ false HSS.out.rdr).mono ?_; rintro e wT ⟨rfl, hw⟩; replace hw := hw.symm; subst hw) | (go_at_call 84; refine (Left_any w1 _ gr ol false HSS.out.rdr hOl).mono ?_; rintro e wT ⟨rfl, hw⟩; replace hw := hw.symm; subst hw))
            clear z0 z1 z2 z3 z4 z5 z6 z7 z8 z9 z10 f0 f1 f2 f3 f4 f5 f6 f7 f8 f9 f10
            change bodyPost _ _ _ _ _ (setL wS a 0 zeroCk_S)
            have HRF := hid (row_setL0 HSS.out.rowa zeroCk_S rfl)
            have HBF := hid (below_setL a HSS.out.ha zeroCk_S wS 0 HSS.out.bel)
            generalize setL wS a 0 zeroCk_S = wF at *
            obtain ⟨z0, z1, z2, z3, z4, z5, z6, z7, z8, z9, z10⟩ := row11_S HRF.out
            refine bodyPost_ret (v := .tuple #[.agg zeroCk_S.toArray, .bool false]) ?_ rfl ⟨HBF.out, by first | exact .inl ⟨rfl, rfl⟩ | rfl⟩
            simp [results, Tryz.results49, go_sem, z0, z1, z2, z3, z4, z5, z6, z7, z8, z9, z10]
            rfl
          case pos =>
            subst hle
            obtain rfl : OK = true := by rw [← HOK3.out]; rfl
            have hgt : ¬ ((([] : List Nat).length : Int) > 0) := by simp
            obtain ⟨z0, z1, z2, z3, z4, z5, z6, z7, z8, z9, z10⟩ := row11_S HSS.out.rowa
            obtain ⟨f0, f1, f2, f3, f4, f5, f6, f7, f8, f9, f10⟩ := frz11_S HSS.out.rowa
            obtain ⟨Al, cl, rfl, _, _, _⟩ := owns_form HOL.out
            obtain ⟨Ae, ce, rfl, _, _, _⟩ := owns_form HOE.out
            obtain ⟨An, cn, rfl, _, _, _⟩ := owns_form HON.out
            obtain ⟨y0, y1, y2, y3, y4, y5, y6, y7, y8, y9, y10⟩ := row11_S HSS.out.rowc
            unfold i64 at y0 y1 y2 y4 y7
            unfold kind_S at y9
            go_wp2_with (first | (go_at_call 83; refine (Short_any w1 _ gr _ false HSS.out.rdr).mono ?_; rintro e wT ⟨rfl, hw⟩; replace hw := hw.symm; subst hw) | (go_at_call 84; refine (Left_any w1 _ gr [] false HSS.out.rdr hOl).mono ?_; rintro e wT ⟨rfl, hw⟩; replace hw := hw.symm; subst hw))
            clear z0 z1 z2 z3 z4 z5 z6 z7 z8 z9 z10 f0 f1 f2 f3 f4 f5 f6 f7 f8 f9 f10 y0 y1 y2 y3 y4 y5 y6 y7 y8 y9 y10
            change bodyPost _ _ _ _ _ (setL wS a 0 (ck_S rows cd wd (.slice (some ⟨p, 0, none⟩) nulls.length nulls.length) k (.slice Al oli.length cl) (.slice Ae oen.length ce) bs (.slice An ola.length cn) kind_S (.slice (some ⟨q, 0, none⟩) nulls.length nulls.length)))
            have HRF := hid (row_setL0 HSS.out.rowa (ck_S rows cd wd (.slice (some ⟨p, 0, none⟩) nulls.length nulls.length) k (.slice Al oli.length cl) (.slice Ae oen.length ce) bs (.slice An ola.length cn) kind_S (.slice (some ⟨q, 0, none⟩) nulls.length nulls.length)) rfl)
            have HBF := hid (below_setL a HSS.out.ha (ck_S rows cd wd (.slice (some ⟨p, 0, none⟩) nulls.length nulls.length) k (.slice Al oli.length cl) (.slice Ae oen.length ce) bs (.slice An ola.length cn) kind_S (.slice (some ⟨q, 0, none⟩) nulls.length nulls.length)) wS 0 HSS.out.bel)
            have hcf := chg_setL a (ck_S rows cd wd (.slice (some ⟨p, 0, none⟩) nulls.length nulls.length) k (.slice Al oli.length cl) (.slice Ae oen.length ce) bs (.slice An ola.length cn) kind_S (.slice (some ⟨q, 0, none⟩) nulls.length nulls.length)) wS 0
            have G1 := hid ((hcf.row HRS.out hpa hpa).owns (B := w.heap.size) (n := nulls.length) hpW (by simp [u64s]) (by unfold maxLen; omega))
            have G2 := hid ((hcf.row HBS2.out hqa hqa).rd' (n := nulls.length) (by simp [i64s, befL]) (by unfold maxLen; omega))
            have G3 := hid (owns_rd (owns_chg HOL.out hcf hr1 hr1))
            have G4 := hid (owns_rd (owns_chg HOE.out hcf hr1 hr1))
            have G5 := hid (owns_rd (owns_chg HON.out hcf hr1 hr1))
            clear hcf
            generalize setL wS a 0 (ck_S rows cd wd (.slice (some ⟨p, 0, none⟩) nulls.length nulls.length) k (.slice Al oli.length cl) (.slice Ae oen.length ce) bs (.slice An ola.length cn) kind_S (.slice (some ⟨q, 0, none⟩) nulls.length nulls.length)) = wF at *
            obtain ⟨z0, z1, z2, z3, z4, z5, z6, z7, z8, z9, z10⟩ := row11_S HRF.out
            refine bodyPost_ret (v := .tuple #[.agg (ck_S rows cd wd (.slice (some ⟨p, 0, none⟩) nulls.length nulls.length) k (.slice Al oli.length cl) (.slice Ae oen.length ce) bs (.slice An ola.length cn) kind_S (.slice (some ⟨q, 0, none⟩) nulls.length nulls.length)).toArray, .bool true]) ?_ rfl ⟨HBF.out, ?_⟩
            · simp [results, Tryz.results49, go_sem, z0, z1, z2, z3, z4, z5, z6, z7, z8, z9, z10]
              rfl
            · first | exact .inr ⟨rfl, _, _, _, _, _, rfl, G1.out, G3.out, G4.out, G5.out, G2.out⟩ | exact ⟨_, _, _, _, _, rfl, G1.out, G3.out, G4.out, G5.out, G2.out⟩
end Go.Proofs.YthonbfojpbfmgaaGreatDoor

/- Package codec: decode and gather of one kind. -/
set_option linter.unusedVariables false
set_option linter.unusedSimpArgs false
set_option linter.unnecessarySimpa false
set_option maxRecDepth 100000
namespace Go.Proofs.YthonbfojpbfmgaaGreatDoor
open Go.RowKit

/-- value number j of a body -/
def vAt_S (rows : Nat) (xs : List Nat) (j : Nat) : ByteArray := vl_S (headOf rows xs).codec (headOf rows xs).wd (lkOut_S rows xs).list (lkOut_S rows xs).ends (lkBase_S rows xs) (lkOut_S rows xs).lanes j
/-- the cell of a row, by its fields -/
def cellA_S (rows : Nat) (xs : List Nat) (r : Nat) : Bool := bitOf (headOf rows xs).nulls r
def cellB_S (rows : Nat) (xs : List Nat) (r : Nat) : Int := if bitOf (headOf rows xs).nulls r = true then 0 else cB_S (vAt_S rows xs (r - rankN (headOf rows xs).nulls (r + 1)))
def cellC_S (rows : Nat) (xs : List Nat) (r : Nat) : ByteArray := if bitOf (headOf rows xs).nulls r = true then ByteArray.empty else cC_S (vAt_S rows xs (r - rankN (headOf rows xs).nulls (r + 1)))
/-- what a body that is valid has -/
structure Valid_S (rows : Nat) (xs : List Nat) : Prop where
  nl : (headOf rows xs).nulls.length = (rows + 63) / 64
  nv : ∀ x ∈ (headOf rows xs).nulls, x < 18446744073709551616
  ll : (lkOut_S rows xs).list.length ≤ 16777216
  el : (lkOut_S rows xs).ends.length ≤ 16777216
  lv : ∀ x ∈ (lkOut_S rows xs).lanes, x < 18446744073709551616
  ok : ∀ j, j < cntOf rows (headOf rows xs).nulls → okv_S (headOf rows xs).codec (headOf rows xs).wd (lkOut_S rows xs).list (lkOut_S rows xs).ends (lkOut_S rows xs).lanes j

/-- a chunk laid in memory -/
theorem ck_laid_S {w : World} {rows : Nat} {xs : List Nat} {nu lv ev nv bef : Value} (h1 : Rd w nu (headOf rows xs).nulls.length 1 (u64s (headOf rows xs).nulls)) (h2 : Rd w lv (lkOut_S rows xs).list.length 1 (lstS (lkOut_S rows xs).list))
    (h3 : Rd w ev (lkOut_S rows xs).ends.length 1 (nIs (lkOut_S rows xs).ends)) (h4 : Rd w nv (lkOut_S rows xs).lanes.length 1 (u64s (lkOut_S rows xs).lanes)) (h5 : Rd w bef (headOf rows xs).nulls.length 1 (i64s (befL (headOf rows xs).nulls))) :
    Ck_S (w.alloc (.cells (ck_S rows (headOf rows xs).codec (headOf rows xs).wd nu (cntOf rows (headOf rows xs).nulls) lv ev (lkBase_S rows xs) nv kind_S bef).toArray 94)) w.heap.size rows (headOf rows xs).codec (headOf rows xs).wd (headOf rows xs).nulls
      (cntOf rows (headOf rows xs).nulls) (lkOut_S rows xs).list (lkOut_S rows xs).ends (lkBase_S rows xs) (lkOut_S rows xs).lanes := by
  have hb : Below w.heap.size w (w.alloc (.cells (ck_S rows (headOf rows xs).codec (headOf rows xs).wd nu (cntOf rows (headOf rows xs).nulls) lv ev (lkBase_S rows xs) nv kind_S bef).toArray 94)) := (brefl w).alloc (Nat.le_refl _) _
  exact ⟨⟨nu, lv, ev, nv, bef, by unfold Row; rw [heap_alloc_new]; rfl, h1.mono hb, h2.mono hb, h3.mono hb, h4.mono hb, h5.mono hb⟩⟩

end Go.Proofs.YthonbfojpbfmgaaGreatDoor

/- Package codec: Decode and Gather. -/
set_option linter.unusedVariables false
set_option linter.unusedSimpArgs false
set_option linter.unnecessarySimpa false
set_option maxRecDepth 100000
namespace Go.Proofs.YthonbfojpbfmgaaGreatDoor
open Go.RowKit

end Go.Proofs.YthonbfojpbfmgaaGreatDoor

/- The laws' own helpers over bytes and cells. -/
set_option linter.unusedVariables false
set_option linter.unusedSimpArgs false
set_option linter.unnecessarySimpa false
set_option maxRecDepth 100000
namespace Go.Proofs.YthonbfojpbfmgaaGreatDoor
open Go.RowKit

theorem Tryz.infoU8 : (Tryz.prog.info? 5).map (fun i => (i.zero, i.size, i.bytes)) = some (some (.int .u8 0), 1, 1) := by kernel_rfl
theorem cellsUp_get (A : Nat → Bool) (B : Nat → Int) (C : Nat → ByteArray) (n : Nat) : ∀ k, k < n → (cellsUp A B C n)[k * 3]? = some (.bool (A k)) ∧ (cellsUp A B C n)[k * 3 + 1]? = some (.int .i64 (B k)) ∧ (cellsUp A B C n)[k * 3 + 2]? = some (.string (C k)) := by
  induction n with
  | zero => intro k hk; omega
  | succ n ih =>
    intro k hk
    have hl := cellsUp_length A B C n
    by_cases hkn : k < n
    · have := ih k hkn
      rw [cellsUp]
      rw [List.getElem?_append_left (by omega), List.getElem?_append_left (by omega), List.getElem?_append_left (by omega)]
      exact this
    · obtain rfl : k = n := by omega
      rw [cellsUp]
      rw [List.getElem?_append_right (by omega), List.getElem?_append_right (by omega), List.getElem?_append_right (by omega), hl]
      simp

end Go.Proofs.YthonbfojpbfmgaaGreatDoor

/- The plain answer: Gather. -/
set_option linter.unusedVariables false
set_option linter.unusedSimpArgs false
set_option linter.unnecessarySimpa false
set_option maxRecDepth 100000
namespace Go.Proofs.YthonbfojpbfmgaaGreatDoor
open Go.RowKit

theorem Rd.atI {w : World} {D : Option Addr} {n m cd : Nat} {xs : List Int} (h : Rd w (.slice D n cd) m 1 (i64s xs)) (h0 : 0 < m) : ∃ b o, D = some ⟨b, o, none⟩ ∧
    ∀ k, k < xs.length → w.cell? ⟨b, o + k, none⟩ = some (.int .i64 (xs.getD k 0)) := by
  rcases h.2 with ⟨_, rfl⟩ | ⟨b, o, cap', he, _, _, hs⟩
  · exact absurd h0 (Nat.lt_irrefl 0)
  · injection he with e1 e2 e3
    exact ⟨b, o, e1, fun k hk => hs.int k hk⟩
end Go.Proofs.YthonbfojpbfmgaaGreatDoor

/- What a body that a look finds valid has: plain mathematics. -/
set_option linter.unusedVariables false
set_option linter.unusedSimpArgs false
set_option linter.unnecessarySimpa false
set_option maxRecDepth 20000
namespace Go.Proofs.YthonbfojpbfmgaaGreatDoor
open Go.RowKit

theorem tkS_false {n : Nat} {xs : List Nat} {s : Bool} (h : tkS n xs s = false) : n ≤ xs.length ∧ s = false := by
  unfold tkS at h; split at h
  · rename_i hn; exact ⟨hn, h⟩
  · cases h
theorem tk_len {n : Nat} {xs : List Nat} (h : n ≤ xs.length) : (tk n xs).length = n := by unfold tk; rw [if_pos h, List.length_take]; omega
theorem rd_full_I {c : Nat} {xs : List Nat} {s : Bool} (h : (rdI c xs s).2.1 = true) (h2 : (rdI c xs s).2.2.2 = false) : (rdI c xs s).1.length = c := by
  unfold rdI at h2 ⊢
  obtain ⟨h3, _⟩ := tkS_false h2
  simp only [List.length_map, numL_length, tk_len h3]
  omega
theorem rd_full_S {c : Nat} {xs : List Nat} {s : Bool} (h : (rdS c xs s).2.1 = true) (h2 : (rdS c xs s).2.2.2 = false) : (rdS c xs s).1.length = c := by
  unfold rdS at h ⊢
  simp only at h ⊢
  split at h
  · cases h
  · split at h
    · cases h
    · rename_i sz hsz hs
      have hs2 : tkS sz.toNat (tkL (4 * c) xs) (tkS (4 * c) xs s) = false := by simpa using hs
      obtain ⟨h3, _⟩ := tkS_false (tkS_false hs2).2
      rw [if_neg hs]
      rw [cutS_length, nI_length, numL_length, tk_len h3]
      omega

theorem rd_short_I (c : Nat) (xs : List Nat) (s : Bool) (h : (rdI c xs s).2.2.2 = false) : s = false := (tkS_false h).2
theorem rd_short_S (c : Nat) (xs : List Nat) (s : Bool) (h : (rdS c xs s).2.2.2 = false) : s = false := by
  unfold rdS at h
  simp only at h
  split at h
  · exact (tkS_false h).2
  · split at h
    · cases h
    · rename_i sz hsz hs
      exact (tkS_false (tkS_false (by simpa using hs)).2).2
theorem bmL_rank0 {fl : List Bool} (h : rankN (bmL fl) fl.length = 0) (j : Nat) (hj : j < fl.length) : fl.getD j false = false := by
  unfold rankN at h
  have h1 : bitOf (bmL fl) j = false := by
    have h2 := List.filter_eq_nil_iff.1 (List.eq_nil_of_length_eq_zero h) j (List.mem_range.2 hj)
    simpa using h2
  have hb := (bmL_isBm fl).2.2 j (by rw [(bmL_isBm fl).1]; have := nWords1_le fl.length; omega)
  rw [h1] at hb
  simpa [hj] using hb.symm
/-- lanes that are found in order -/
theorem lanesB_true {wd k : Nat} {op : Int} {ws : List Nat} {lim : Nat} (h : lanesB wd k op ws lim = true) : wd ≤ 64 ∧ k ≤ 65536 ∧ L.IsPack wd k ws ∧ ∀ j, j < k → standsB op (L.laneOf wd ws j) lim = false := by
  unfold lanesB at h
  rw [Bool.and_eq_true] at h
  obtain ⟨h1, h2⟩ := h
  have h3 : okPack wd k ws = true := by unfold cmpOk at h1; rw [Bool.and_eq_true] at h1; exact h1.2
  have h4 : wd ≤ 64 ∧ k ≤ 65536 := by
    unfold okPack okLim at h3; simp only [Bool.and_eq_true, decide_eq_true_eq] at h3; omega
  have h5 := (okPack_nat ws h4.1 h4.2).1 h3
  refine ⟨h4.1, h4.2, h5, fun j hj => ?_⟩
  rw [cmpR, if_pos h1] at h2
  have hfl : ((List.range (k : Int).toNat).map (cmpF (wd : Int).toNat op ws lim)).length = k := by simp
  have h6 : okPack 1 k (bmL ((List.range (k : Int).toNat).map (cmpF (wd : Int).toNat op ws lim))) = true := by
    refine (okPack_nat _ (by decide) h4.2).2 ?_
    have := L.pack_isPack (w := 1) (by omega) (((List.range (k : Int).toNat).map (cmpF (wd : Int).toNat op ws lim)).map Bool.toNat) (toNat_lt _)
    rwa [List.length_map, hfl] at this
  rw [rankR, if_pos ⟨h6, by omega, by omega⟩] at h2
  have h7 : rankN (bmL ((List.range (k : Int).toNat).map (cmpF (wd : Int).toNat op ws lim))) k = 0 := by simpa using h2
  have h8 := bmL_rank0 (fl := (List.range (k : Int).toNat).map (cmpF (wd : Int).toNat op ws lim)) (by rw [hfl]; exact h7) j (by rw [hfl]; exact hj)
  simpa [List.getD, List.getElem?_map, List.getElem?_range hj, cmpF] using h8
theorem pack_bound {wd k : Nat} {ws : List Nat} (hw : wd ≤ 64) (h : L.IsPack wd k ws) (j : Nat) (hj : j < k) (h0 : 0 < wd) : j / (64 / wd) < ws.length := by
  rw [h.1, L.lt_nWords h0 hw]
  exact Nat.lt_of_le_of_lt (Nat.div_mul_le_self _ _) hj

theorem endsUp_gt (es : List Int) : ∀ l k, endsUp l es = some k → ∀ i, i < es.length → l < es.getD i 0 := by
  induction es with
  | nil => intro l k h i hi; simp at hi
  | cons e r ih =>
    intro l k h i hi
    simp only [endsUp] at h
    split at h
    · cases h
    · rename_i hc
      cases i with
      | zero => simp; omega
      | succ i => have := ih e k h i (by simpa using hi); simp only [List.getD_cons_succ]; omega
theorem endsUp_asc (es : List Int) : ∀ l k, endsUp l es = some k → ∀ a b, a < b → b < es.length → es.getD a 0 < es.getD b 0 := by
  induction es with
  | nil => intro l k h a b hab hb; simp at hb
  | cons e r ih =>
    intro l k h a b hab hb
    simp only [endsUp] at h
    split at h
    · cases h
    · cases b with
      | zero => omega
      | succ b =>
        cases a with
        | zero => have := endsUp_gt r e k h b (by simpa using hb); simpa using this
        | succ a => have := ih e k h a b (by omega) (by simpa using hb); simpa using this
theorem endsUp_last (es : List Int) : ∀ l k, endsUp l es = some k → (es = [] ∧ k = l) ∨ k ∈ es := by
  induction es with
  | nil => intro l k h; simp [endsUp] at h; exact .inl ⟨rfl, h.symm⟩
  | cons e r ih =>
    intro l k h
    simp only [endsUp] at h
    split at h
    · cases h
    · rcases ih e k h with ⟨h1, h2⟩ | h1
      · subst h2; exact .inr (by simp)
      · exact .inr (by simp [h1])
theorem firstGe_lt {es : List Int} {k : Int} (h : runEnds es k = true) (t : Int) (h0 : 0 < t) (ht : t ≤ k) : firstGe es t < es.length := by
  have h1 : endsUp 0 es = some k := by simpa [runEnds] using h
  unfold firstGe
  rw [List.findIdx_lt_length]
  rcases endsUp_last es 0 k h1 with ⟨h2, h3⟩ | h2
  · omega
  · exact ⟨k, h2, by simpa using ht⟩
theorem runEnds_asc {es : List Int} {k : Int} (h : runEnds es k = true) : ∀ a b, a < b → b < es.length → es.getD a 0 < es.getD b 0 := by
  have h1 : endsUp 0 es = some k := by simpa [runEnds] using h
  exact endsUp_asc es 0 k h1
end Go.Proofs.YthonbfojpbfmgaaGreatDoor

/- A body that a look finds valid is valid. -/
set_option linter.unusedVariables false
set_option linter.unusedSimpArgs false
set_option linter.unnecessarySimpa false
set_option maxRecDepth 20000
namespace Go.Proofs.YthonbfojpbfmgaaGreatDoor
open Go.RowKit

theorem restW_lt {xs : List Nat} (h : ∀ x ∈ xs, x < 256) : ∀ x ∈ restW xs, x < 18446744073709551616 := by unfold restW; exact numL_lt (tk_lt h) (by omega)
theorem endsN_len (c : Nat) (xs : List Nat) (hl : xs.length ≤ 16777216) : (numL 4 (tk c xs)).length ≤ 16777216 := by
  rw [numL_length]; unfold tk; split
  · rw [List.length_take]; omega
  · simp
theorem valid_I (rows : Nat) (xs : List Nat) (hb : ∀ x ∈ xs, x < 256) (hl : xs.length ≤ 16777216) (hrr : rows ≤ 65536) (h : lkOk_I rows xs = true) : Valid_I rows xs := by
  unfold lkOk_I headOk at h
  simp only [Bool.and_eq_true, Bool.not_eq_true', decide_eq_true_eq] at h
  obtain ⟨⟨hpk, hcd⟩, hOb, hOs, hOl⟩ := h
  have hnl := ((okPack_nat (wd := 1) (n := rows) _ (by decide) hrr).1 hpk).1
  rw [nWords1] at hnl
  have hx3 : (headOf rows xs).left.length ≤ 16777216 := Nat.le_trans (tkL_le _ _) (Nat.le_trans (tkL_le _ _) (Nat.le_trans (tkL_le _ _) hl))
  have hb3 : ∀ x ∈ (headOf rows xs).left, x < 256 := tkL_lt (tkL_lt (tkL_lt hb))
  have hnv : ∀ x ∈ (headOf rows xs).nulls, x < 18446744073709551616 := numL_lt (tk_lt (tkL_lt (tkL_lt hb))) (by omega)
  have key : (lkOut_I rows xs).list.length ≤ 16777216 ∧ (lkOut_I rows xs).ends.length ≤ 16777216 ∧ (∀ x ∈ (lkOut_I rows xs).lanes, x < 18446744073709551616) ∧
      ∀ j, j < cntOf rows (headOf rows xs).nulls → okv_I (headOf rows xs).codec (headOf rows xs).wd (lkOut_I rows xs).list (lkOut_I rows xs).ends (lkOut_I rows xs).lanes j := by
    unfold lkOut_I at *
    generalize cntOf rows (headOf rows xs).nulls = k at *
    generalize (headOf rows xs).left = x3 at *
    generalize (headOf rows xs).short = t3 at *
    generalize (headOf rows xs).codec = cd at *
    generalize (headOf rows xs).wd = wd at *
    have hcdk : 1 ≤ cd ∧ cd ≤ 5 := by
      unfold isCodec at hcd
      split at hcd
      · omega
      · simp only [decide_eq_true_eq] at hcd; omega
    unfold outPay_I at *
    by_cases h1 : cd = 1
    · subst h1
      rw [if_pos rfl] at *
      unfold outPlain_I at *
      simp only [Bool.and_eq_true, decide_eq_true_eq] at *
      have hf := rd_full_I hOb.1 hOs
      exact ⟨rd_len_I _ _ _ hx3, by simp, by simp, fun j hj => .inr (.inl ⟨rfl, by rw [hf]; exact hj⟩)⟩
    by_cases h2 : cd = 2
    · subst h2
      rw [if_neg (by decide), if_pos rfl] at *
      unfold outDict_I at *
      split at hOb
      · cases hOb
      · rename_i hc
        rw [if_neg hc] at *
        have hxl1 : (tkL 4 x3).length ≤ 16777216 := Nat.le_trans (tkL_le _ _) hx3
        have hxb1 : ∀ x ∈ tkL 4 x3, x < 256 := tkL_lt hb3
        have hrl := rd_len_I (L.wordOf 8 (tk 4 x3)) (tkL 4 x3) (tkS 4 x3 t3) hxl1
        have hrb := (rd_left_I (L.wordOf 8 (tk 4 x3)) (tkL 4 x3) (tkS 4 x3 t3)).2 256 hxb1
        have hfl := @rd_full_I (L.wordOf 8 (tk 4 x3)) (tkL 4 x3) (tkS 4 x3 t3)
        generalize rdI (L.wordOf 8 (tk 4 x3)) (tkL 4 x3) (tkS 4 x3 t3) = R at *
        generalize L.wordOf 8 (tk 4 x3) = d at *
        obtain ⟨vals, ok, xl, s1⟩ := R
        simp only at *
        split at hOb
        · rename_i hoa
          rw [if_pos hoa] at *
          simp only at *
          obtain ⟨l1, l2, l3, l4⟩ := lanesB_true hOb
          have hs1 := (tkS_false hOs).2
          have hvl := hfl (by simp only [Bool.and_eq_true] at hoa; exact hoa.1) hs1
          refine ⟨hrl, by simp, restW_lt hrb, fun j hj => .inr (.inr (.inl ⟨rfl, ?_, l1, fun h0 => pack_bound l1 l3 j hj h0⟩))⟩
          have := l4 j hj
          unfold standsB at this
          simp at this
          omega
        · cases hOb
    by_cases h3 : cd = 3
    · subst h3
      rw [if_neg (by decide), if_neg (by decide), if_pos rfl] at *
      unfold outRuns_I at *
      split at hOb
      · cases hOb
      · rename_i hc
        rw [if_neg hc] at *
        have hxl1 : (tkL 4 x3).length ≤ 16777216 := Nat.le_trans (tkL_le _ _) hx3
        have hxl2 : (tkL (4 * L.wordOf 8 (tk 4 x3)) (tkL 4 x3)).length ≤ 16777216 := Nat.le_trans (tkL_le _ _) hxl1
        have hrl := rd_len_I (L.wordOf 8 (tk 4 x3)) (tkL (4 * L.wordOf 8 (tk 4 x3)) (tkL 4 x3)) (tkS (4 * L.wordOf 8 (tk 4 x3)) (tkL 4 x3) (tkS 4 x3 t3)) hxl2
        have hfl := @rd_full_I (L.wordOf 8 (tk 4 x3)) (tkL (4 * L.wordOf 8 (tk 4 x3)) (tkL 4 x3)) (tkS (4 * L.wordOf 8 (tk 4 x3)) (tkL 4 x3) (tkS 4 x3 t3))
        have hsh := rd_short_I (L.wordOf 8 (tk 4 x3)) (tkL (4 * L.wordOf 8 (tk 4 x3)) (tkL 4 x3)) (tkS (4 * L.wordOf 8 (tk 4 x3)) (tkL 4 x3) (tkS 4 x3 t3))
        have hen := endsN_len (4 * L.wordOf 8 (tk 4 x3)) (tkL 4 x3) hxl1
        have hel : tkS (4 * L.wordOf 8 (tk 4 x3)) (tkL 4 x3) (tkS 4 x3 t3) = false → (numL 4 (tk (4 * L.wordOf 8 (tk 4 x3)) (tkL 4 x3))).length = L.wordOf 8 (tk 4 x3) := fun h => by
          rw [numL_length, tk_len (tkS_false h).1]; omega
        generalize rdI (L.wordOf 8 (tk 4 x3)) (tkL (4 * L.wordOf 8 (tk 4 x3)) (tkL 4 x3)) (tkS (4 * L.wordOf 8 (tk 4 x3)) (tkL 4 x3) (tkS 4 x3 t3)) = R at *
        generalize numL 4 (tk (4 * L.wordOf 8 (tk 4 x3)) (tkL 4 x3)) = es at *
        generalize tkS (4 * L.wordOf 8 (tk 4 x3)) (tkL 4 x3) (tkS 4 x3 t3) = s2 at *
        generalize L.wordOf 8 (tk 4 x3) = d at *
        obtain ⟨vals, ok, xl, s1⟩ := R
        simp only [Bool.and_eq_true] at *
        have hvl := hfl hOb.1 hOs
        have hed := hel (hsh hOs)
        have hre : runEnds (nI es) k = true := by
          cases hx : runEnds (nI es) k with
          | true => rfl
          | false => exact absurd (.inr hx) hc
        refine ⟨hrl, hen, by simp, fun j hj => .inr (.inr (.inr ⟨rfl, ?_, runEnds_asc hre⟩))⟩
        have := firstGe_lt hre ((j : Int) + 1) (by omega) (by omega)
        rw [nI_length, hed] at this
        rw [hvl]; exact this
    · rw [if_neg h1, if_neg h2, if_neg h3] at *
      have h45 : cd = 4 ∨ cd = 5 := by omega
      rcases h45 with rfl | rfl
      · rw [if_pos rfl] at *
        unfold outOff at *
        simp only at *
        obtain ⟨l1, l2, l3, l4⟩ := lanesB_true hOb
        exact ⟨by simp, by simp, restW_lt (tkL_lt hb3), fun j hj => .inl ⟨.inl rfl, l1, fun h0 => pack_bound l1 l3 j hj h0⟩⟩
      · rw [if_neg (by decide)] at *
        unfold outOff at *
        simp only at *
        obtain ⟨l1, l2, l3, l4⟩ := lanesB_true hOb
        exact ⟨by simp, by simp, restW_lt hb3, fun j hj => .inl ⟨.inr rfl, l1, fun h0 => pack_bound l1 l3 j hj h0⟩⟩
  exact ⟨hnl, hnv, key.1, key.2.1, key.2.2.1, key.2.2.2⟩
end Go.Proofs.YthonbfojpbfmgaaGreatDoor
