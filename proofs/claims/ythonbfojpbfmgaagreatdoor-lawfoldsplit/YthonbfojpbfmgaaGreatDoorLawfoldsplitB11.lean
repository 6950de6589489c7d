/- The plain answer: Decode. -/
import Derived.Test.YthonbfojpbfmgaaGreatDoorLawfoldsplitB9
import Derived.Test.YthonbfojpbfmgaaGreatDoorLawfoldsplitB4
import Derived.Test.YthonbfojpbfmgaaGreatDoorLawfoldsplitB3
import Derived.Test.YthonbfojpbfmgaaGreatDoorLawfoldsplitB10
import Derived.Test.YthonbfojpbfmgaaGreatDoorLawfoldsplitB8
set_option linter.unusedVariables false
set_option linter.unusedSimpArgs false
set_option linter.unnecessarySimpa false
set_option maxRecDepth 100000
namespace Go.Proofs.YthonbfojpbfmgaaGreatDoor
open Go.RowKit

def rN (rows : Nat) : Nat := (rows + 63) / 64
/-- the bitmap of the NULLs; is the head of a body in order; how many values there are; what the payload says -/
def rWs (rows : Nat) (xs : List Nat) : List Nat := numL 8 (tk (8 * rN rows) (xs.drop 2))
def rHd (rows : Nat) (xs : List Nat) : Bool := numsOk 8 (rN rows) 2 xs.length && okPack 1 rows (rWs rows xs)
def rK (rows : Nat) (xs : List Nat) : Nat := rows - rankN (rWs rows xs) rows
def rPay (kd rows : Nat) (xs : List Nat) : Bool × List PV := payR kd (xs.getD 0 0) (xs.getD 1 0) (rK rows xs) (2 + 8 * rN rows) xs
def rOk (kd rows : Nat) (xs : List Nat) : Bool := rHd rows xs && (rPay kd rows xs).1 && decide ((rPay kd rows xs).2.length = rK rows xs)
/-- the cell of a row, by its fields -/
def cA (ws : List Nat) (r : Nat) : Bool := bitOf ws r
def cB (ws : List Nat) (vs : List PV) (r : Nat) : Int := if bitOf ws r = true then 0 else (vs.getD (r - rankN ws r) dfP).1
def cC (ws : List Nat) (vs : List PV) (r : Nat) : ByteArray := if bitOf ws r = true then ByteArray.empty else (vs.getD (r - rankN ws r) dfP).2
def rCells (kd rows : Nat) (xs : List Nat) : List Value := cellsUp (cA (rWs rows xs)) (cB (rWs rows xs) (rPay kd rows xs).2) (cC (rWs rows xs) (rPay kd rows xs).2) rows
def refCode (k rows : Int) (xs : List Nat) : Int := if (isKind k && isRows rows) = true then (if rOk k.toNat rows.toNat xs = true then 0 else 1) else 5
def refCells (k rows : Int) (xs : List Nat) : List Value := if refCode k rows xs = 0 then rCells k.toNat rows.toNat xs else []
def refLen (k rows : Int) (xs : List Nat) : Nat := if refCode k rows xs = 0 then rows.toNat else 0
theorem rankN_le (ws : List Nat) (i : Nat) : rankN ws i ≤ i := by
  unfold rankN; have := List.length_filter_le (bitOf ws) (List.range i); rwa [List.length_range] at this
theorem rankN_false (ws : List Nat) : ∀ i d, rankN ws i + d ≤ i → i - rankN ws i ≤ (i + 1) - rankN ws (i + 1) := by
  intro i d h
  rw [rankN_succ]
  split <;> omega
theorem rank_mono (ws : List Nat) (i j : Nat) (h : i ≤ j) : i - rankN ws i ≤ j - rankN ws j := by
  induction j with
  | zero => obtain rfl : i = 0 := by omega
            exact Nat.le_refl _
  | succ j ih =>
    by_cases hij : i = j + 1
    · subst hij; exact Nat.le_refl _
    · exact Nat.le_trans (ih (by omega)) (rankN_false ws j 0 (rankN_le ws j))
end Go.Proofs.YthonbfojpbfmgaaGreatDoor

/- Package chunk: a body looked through. -/
set_option linter.unusedVariables false
set_option linter.unusedSimpArgs false
set_option linter.unnecessarySimpa false
set_option maxRecDepth 100000
namespace Go.Proofs.YthonbfojpbfmgaaGreatDoor
open Go.RowKit

def zeroCk_I : List Value := [i64 0, i64 0, i64 0, nilS, i64 0, nilS, nilS, i64 0, nilS, .nilIface, nilS]
/-- where a look stands: the result's block a, the reader's gr, the chunk's g -/
structure St_I (W w0 w : World) (a gr g : Nat) (cs : List Value) (xs : List Nat) (s : Bool) : Prop where
  rowc : Row w g 111 cs
  rowa : Row w a 111 zeroCk_I
  rdr : RdrAt w0 w gr xs s
  bel : Below W.heap.size W w
  ha : W.heap.size ≤ a
  hr : W.heap.size ≤ gr
  hg : W.heap.size ≤ g
  h0 : w0.heap.size ≤ g
  n1 : g ≠ gr
  n2 : a ≠ g
  n3 : a ≠ gr
theorem St_I.store {W w0 w : World} {a gr g : Nat} {cs : List Value} {xs : List Nat} {s : Bool} (h : St_I W w0 w a gr g cs xs s) (f : Nat) (v : Value) : St_I W w0 (w.setCell ⟨g, f, none⟩ v) a gr g (cs.set f v) xs s := by
  have hch := (Chg.refl g g w).setCell g f v (.inl rfl)
  exact ⟨h.rowc.set f v, hch.row h.rowa h.n2 h.n2, h.rdr.chg hch (Ne.symm h.n1) (Ne.symm h.n1) h.h0 h.h0, below_set h.bel _ _ _ h.hg, h.ha, h.hr, h.hg, h.h0, h.n1, h.n2, h.n3⟩
theorem St_I.step {W w0 w w' : World} {a gr g : Nat} {cs : List Value} {xs ys : List Nat} {s t : Bool} (h : St_I W w0 w a gr g cs xs s) (hc : Chg gr gr w w') (hr : RdrAt w0 w' gr ys t) : St_I W w0 w' a gr g cs ys t :=
  ⟨hc.row h.rowc h.n1 h.n1, hc.row h.rowa h.n3 h.n3, hr, hc.below h.bel h.bel.size h.hr h.hr, h.ha, h.hr, h.hg, h.h0, h.n1, h.n2, h.n3⟩
theorem St_I.mono {W w0 w w' : World} {a gr g : Nat} {cs : List Value} {xs : List Nat} {s : Bool} (h : St_I W w0 w a gr g cs xs s) (hb : Below w.heap.size w w') : St_I W w0 w' a gr g cs xs s :=
  ⟨h.rowc.mono hb, h.rowa.mono hb, h.rdr.mono hb, h.bel.trans (hb.mono h.bel.size), h.ha, h.hr, h.hg, h.h0, h.n1, h.n2, h.n3⟩
theorem St_I.both {W w0 w w' : World} {a gr g : Nat} {cs ds : List Value} {xs ys : List Nat} {s t : Bool} (h : St_I W w0 w a gr g cs xs s) (hc : Chg g gr w w') (hd : Row w' g 111 ds) (hr : RdrAt w0 w' gr ys t) : St_I W w0 w' a gr g ds ys t :=
  ⟨hd, hc.row h.rowa h.n2 h.n3, hr, hc.below h.bel h.bel.size h.hg h.hr, h.ha, h.hr, h.hg, h.h0, h.n1, h.n2, h.n3⟩

theorem outPay_left_I (cd : Nat) (wd : Int) (k : Nat) (xs : List Nat) (s : Bool) : (outPay_I cd wd k xs s).left.length ≤ xs.length := by
  have h1 : ∀ n ys, (tkL n ys).length ≤ ys.length := tkL_le
  have hP : (outPlain_I wd k xs s).left.length ≤ xs.length := (rd_left_I k xs s).1
  have hD : (outDict_I wd k xs s).left.length ≤ xs.length := by
    unfold outDict_I
    split
    · exact h1 _ _
    · have hr := (rd_left_I (L.wordOf 8 (tk 4 xs)) (tkL 4 xs) (tkS 4 xs s)).1
      generalize rdI (L.wordOf 8 (tk 4 xs)) (tkL 4 xs) (tkS 4 xs s) = R at *
      obtain ⟨vals, ok, xl, s1⟩ := R
      simp only at *
      split
      · exact Nat.le_trans (h1 _ _) (Nat.le_trans hr (h1 _ _))
      · exact Nat.le_trans hr (h1 _ _)
  have hR : (outRuns_I wd k xs s).left.length ≤ xs.length := by
    unfold outRuns_I
    split
    · exact Nat.le_trans (h1 _ _) (h1 _ _)
    · have hr := (rd_left_I (L.wordOf 8 (tk 4 xs)) (tkL (4 * L.wordOf 8 (tk 4 xs)) (tkL 4 xs)) (tkS (4 * L.wordOf 8 (tk 4 xs)) (tkL 4 xs) (tkS 4 xs s))).1
      generalize rdI (L.wordOf 8 (tk 4 xs)) (tkL (4 * L.wordOf 8 (tk 4 xs)) (tkL 4 xs)) (tkS (4 * L.wordOf 8 (tk 4 xs)) (tkL 4 xs) (tkS 4 xs s)) = R at *
      obtain ⟨vals, ok, xl, s1⟩ := R
      exact Nat.le_trans hr (Nat.le_trans (h1 _ _) (h1 _ _))
  unfold outPay_I
  repeat' split
  all_goals first | exact hP | exact hD | exact hR | exact h1 _ _ | exact Nat.le_trans (h1 _ _) (h1 _ _)
/-- the eleven cells of a chunk's block -/
theorem row11_I {w : World} {a : Nat} {e : TypeId} {v0 v1 v2 v3 v4 v5 v6 v7 v8 v9 v10 : Value} (h : Row w a e [v0, v1, v2, v3, v4, v5, v6, v7, v8, v9, v10]) :
    w.cell? ⟨a, 0, none⟩ = some v0 ∧ w.cell? ⟨a, 1, none⟩ = some v1 ∧ w.cell? ⟨a, 2, none⟩ = some v2 ∧ w.cell? ⟨a, 3, none⟩ = some v3 ∧ w.cell? ⟨a, 4, none⟩ = some v4 ∧ w.cell? ⟨a, 5, none⟩ = some v5 ∧
    w.cell? ⟨a, 6, none⟩ = some v6 ∧ w.cell? ⟨a, 7, none⟩ = some v7 ∧ w.cell? ⟨a, 8, none⟩ = some v8 ∧ w.cell? ⟨a, 9, none⟩ = some v9 ∧ w.cell? ⟨a, 10, none⟩ = some v10 := by
  refine ⟨?_, ?_, ?_, ?_, ?_, ?_, ?_, ?_, ?_, ?_, ?_⟩ <;> (rw [h.cell]; rfl)
theorem frz11_I {w : World} {a : Nat} {e : TypeId} {cs : List Value} (h : Row w a e cs) :
    w.frozen? ⟨a, 0, none⟩ = false ∧ w.frozen? ⟨a, 1, none⟩ = false ∧ w.frozen? ⟨a, 2, none⟩ = false ∧ w.frozen? ⟨a, 3, none⟩ = false ∧ w.frozen? ⟨a, 4, none⟩ = false ∧ w.frozen? ⟨a, 5, none⟩ = false ∧
    w.frozen? ⟨a, 6, none⟩ = false ∧ w.frozen? ⟨a, 7, none⟩ = false ∧ w.frozen? ⟨a, 8, none⟩ = false ∧ w.frozen? ⟨a, 9, none⟩ = false ∧ w.frozen? ⟨a, 10, none⟩ = false :=
  ⟨h.frozen 0, h.frozen 1, h.frozen 2, h.frozen 3, h.frozen 4, h.frozen 5, h.frozen 6, h.frozen 7, h.frozen 8, h.frozen 9, h.frozen 10⟩

def knum_I : Int := 1
def cmax_I : Nat := 5
def lkBase_I (rows : Nat) (xs : List Nat) : Int := basePay (headOf rows xs).codec (headOf rows xs).left
def lkOut_I (rows : Nat) (xs : List Nat) : Out_I := outPay_I (headOf rows xs).codec (headOf rows xs).wd (cntOf rows (headOf rows xs).nulls) (headOf rows xs).left (headOf rows xs).short
def lkOk_I (rows : Nat) (xs : List Nat) : Bool := headOk knum_I rows (headOf rows xs) && ((lkOut_I rows xs).b && (!(lkOut_I rows xs).short && decide ((lkOut_I rows xs).left = [])))

set_option maxHeartbeats 16000000 in
theorem Look_I (w : World) (v : Value) (xs : List Nat) (rows : Nat) (hT : Tab w) (hv : Rd w v xs.length 1 (u8s xs)) (hb : ∀ x ∈ xs, x < 256) (hl : xs.length ≤ 16777216) (hrr : rows ≤ 65536) :
    Calls Tryz.prog 56 #[.iface 68 (.agg #[]), .int .i64 rows, v] w fun e w' => Below w.heap.size w w' ∧
      ((lkOk_I rows xs = false ∧ e = .returned (.tuple #[.agg zeroCk_I.toArray, .bool false])) ∨
       (lkOk_I rows xs = true ∧ ∃ nu lv ev nv bef, e = .returned (.tuple #[.agg (ck_I rows (headOf rows xs).codec (headOf rows xs).wd nu (cntOf rows (headOf rows xs).nulls) lv ev (lkBase_I rows xs) nv kind_I bef).toArray, .bool true]) ∧
          w'.ownsRow w.heap.size 40 1 nu (headOf rows xs).nulls.length (u64s (headOf rows xs).nulls) ∧ Rd w' lv (lkOut_I rows xs).list.length 1 (lstI (lkOut_I rows xs).list) ∧ Rd w' ev (lkOut_I rows xs).ends.length 1 (nIs (lkOut_I rows xs).ends) ∧
          Rd w' nv (lkOut_I rows xs).lanes.length 1 (u64s (lkOut_I rows xs).lanes) ∧ Rd w' bef (headOf rows xs).nulls.length 1 (i64s (befL (headOf rows xs).nulls)))) := by
  have HT := hid hT
  have HTL := hid hT.lt
  have HV := hid hv
  obtain ⟨A0, c0, rfl, _, _, _⟩ := hv.form
  clear hT hv
  obtain ⟨OK, hOK⟩ : ∃ OK, lkOk_I rows xs = OK := ⟨_, rfl⟩
  rw [hOK]
  have HOK := hid hOK
  unfold lkOk_I headOk lkOut_I at HOK
  obtain ⟨H, hH⟩ : ∃ H, headOf rows xs = H := ⟨_, rfl⟩
  have HH := hid hH
  rw [hH] at HOK ⊢
  obtain ⟨O, hO⟩ : ∃ O, lkOut_I rows xs = O := ⟨_, rfl⟩
  have HO := hid hO
  unfold lkOut_I at HO
  rw [hH] at HO
  rw [HO.out] at HOK
  rw [hO]
  obtain ⟨bs, hbs⟩ : ∃ bs, lkBase_I rows xs = bs := ⟨_, rfl⟩
  have HBS := hid hbs
  unfold lkBase_I at HBS
  rw [hH] at HBS
  rw [hbs]
  clear hOK hH hO hbs
  obtain ⟨cd, wd, nulls, x3, t3⟩ := H
  simp only at *
  have hcd : L.wordOf 8 (tk 1 xs) = cd := by have := HH.out; simp only [headOf, Head.mk.injEq] at this; exact this.1
  have hwd : L.wordOf 8 (tk 1 (tkL 1 xs)) = wd := by have := HH.out; simp only [headOf, Head.mk.injEq] at this; exact this.2.1
  have hnu : numL 8 (tk (8 * ((rows + 63) / 64)) (tkL 1 (tkL 1 xs))) = nulls := by have := HH.out; simp only [headOf, Head.mk.injEq] at this; exact this.2.2.1
  have hx3 : tkL (8 * ((rows + 63) / 64)) (tkL 1 (tkL 1 xs)) = x3 := by have := HH.out; simp only [headOf, Head.mk.injEq] at this; exact this.2.2.2.1
  have ht3 : tkS (8 * ((rows + 63) / 64)) (tkL 1 (tkL 1 xs)) (tkS 1 (tkL 1 xs) (tkS 1 xs false)) = t3 := by have := HH.out; simp only [headOf, Head.mk.injEq] at this; exact this.2.2.2.2
  obtain ⟨x1, hx1⟩ : ∃ x1, tkL 1 xs = x1 := ⟨_, rfl⟩
  obtain ⟨t1, ht1⟩ : ∃ t1, tkS 1 xs false = t1 := ⟨_, rfl⟩
  rw [hx1] at hwd hnu hx3 ht3
  rw [ht1] at ht3
  obtain ⟨x2, hx2⟩ : ∃ x2, tkL 1 x1 = x2 := ⟨_, rfl⟩
  obtain ⟨t2, ht2⟩ : ∃ t2, tkS 1 x1 t1 = t2 := ⟨_, rfl⟩
  rw [hx2] at hnu hx3 ht3
  rw [ht2] at ht3
  obtain ⟨m, hm⟩ : ∃ m, (rows + 63) / 64 = m := ⟨_, rfl⟩
  rw [hm] at hnu hx3 ht3
  have hm' : ((rows : Int) + 63) / 64 = (m : Int) := by omega
  have hl1 : x1.length ≤ 16777216 := by rw [← hx1]; exact Nat.le_trans (tkL_le _ _) hl
  have hb1 : ∀ x ∈ x1, x < 256 := by rw [← hx1]; exact tkL_lt hb
  have hl2 : x2.length ≤ 16777216 := by rw [← hx2]; exact Nat.le_trans (tkL_le _ _) hl1
  have hb2 : ∀ x ∈ x2, x < 256 := by rw [← hx2]; exact tkL_lt hb1
  have hl3 : x3.length ≤ 16777216 := by rw [← hx3]; exact Nat.le_trans (tkL_le _ _) hl2
  have hb3 : ∀ x ∈ x3, x < 256 := by rw [← hx3]; exact tkL_lt hb2
  have hnv : ∀ x ∈ nulls, x < 18446744073709551616 := by rw [← hnu]; exact numL_lt (tk_lt hb2) (by omega)
  have hnl : nulls.length ≤ 2097152 := by
    rw [← hnu, numL_length]; unfold tk; split
    · rw [List.length_take]; omega
    · simp
  have HBY1 := hid (fun (w0 w : World) (g : Nat) (h : RdrAt w0 w g xs false) => Byte_any w0 w g xs false h hb hl)
  rw [hcd, hx1, ht1] at HBY1
  have HBY2 := hid (fun (w0 w : World) (g : Nat) (h : RdrAt w0 w g x1 t1) => Byte_any w0 w g x1 t1 h hb1 hl1)
  rw [hwd, hx2, ht2] at HBY2
  have HU := hid (fun (w0 w : World) (g : Nat) (h : RdrAt w0 w g x2 t2) (hg : g < w.heap.size) => U64s_any w0 w g x2 t2 m h hg hb2 hl2 (by omega))
  rw [hnu, hx3, ht3] at HU
  have HRK := hid (fun (w : World) (v : Value) (h : Rd w v nulls.length 1 (u64s nulls)) => Rank_any v nulls rows rows w h hnv (by unfold maxLen; omega))
  obtain ⟨rk, hrk⟩ : ∃ rk, rankR rows rows nulls = rk := ⟨_, rfl⟩
  rw [hrk] at HRK
  have HRKE := hid hrk
  obtain ⟨k, hk⟩ : ∃ k, cntOf rows nulls = k := ⟨_, rfl⟩
  rw [hk] at HO ⊢
  have HK := hid hk
  clear hcd hwd hnu hx3 ht3 hx1 ht1 hx2 ht2 hm hrk HH hk
  go_enter Tryz.func56, Tryz.ntmps56
  go_wp2_with fail
  have hbA : Below w.heap.size w (w.alloc (.cells zeroCk_I.toArray 111)) := (brefl w).alloc (Nat.le_refl _) _
  have hrA : Row (w.alloc (.cells zeroCk_I.toArray 111)) w.heap.size 111 zeroCk_I := by unfold Row; rw [heap_alloc_new]
  have hsA : (w.alloc (.cells zeroCk_I.toArray 111)).heap.size = w.heap.size + 1 := by simp
  change Calls _ _ _ (w.alloc (.cells zeroCk_I.toArray 111)) _
  generalize w.alloc (.cells zeroCk_I.toArray 111) = w1 at *
  have HV1 := hid (HV.out.mono hbA)
  refine (NewReader_any w1 _ xs HV1.out).mono ?_
  rintro e w2 ⟨rfl, hat, hb2, hsz2⟩
  have HAT := hid hat
  have HBA := hid hbA; have HRA := hid hrA
  have HB2 := hid hb2
  clear hat hbA hrA hb2
  go_wp2_with fail
  have hbC : Below w2.heap.size w2 (w2.alloc (.cells (ck_I rows 0 0 nilS 0 nilS nilS 0 nilS kind_I nilS).toArray 111)) := (brefl w2).alloc (Nat.le_refl _) _
  have hrC : Row (w2.alloc (.cells (ck_I rows 0 0 nilS 0 nilS nilS 0 nilS kind_I nilS).toArray 111)) w2.heap.size 111 (ck_I rows 0 0 nilS 0 nilS nilS 0 nilS kind_I nilS) := by unfold Row; rw [heap_alloc_new]
  change Calls _ _ _ (w2.alloc (.cells (ck_I rows 0 0 nilS 0 nilS nilS 0 nilS kind_I nilS).toArray 111)) _
  generalize w2.alloc (.cells (ck_I rows 0 0 nilS 0 nilS nilS 0 nilS kind_I nilS).toArray 111) = w3 at *
  have HS3 : Hid (St_I w w1 w3 w.heap.size (w.heap.size + 1) (w.heap.size + 1 + 1) (ck_I rows 0 0 nilS 0 nilS nilS 0 nilS kind_I nilS) xs false) := by
    refine hid ⟨?_, (HRA.out.mono HB2.out).mono hbC, ?_, HBA.out.trans ((bthen HB2.out hbC).mono (by omega)), by omega, by omega, by omega, by omega, by omega, by omega, by omega⟩
    · have : w2.heap.size = w.heap.size + 1 + 1 := by omega
      rw [this] at hrC; exact hrC
    · have h1 := HAT.out.mono hbC
      rw [hsA] at h1; exact h1
  have HT1 := hid (HT.out.mono HBA.out HTL.out)
  clear hbC hrC HAT HBA HRA HB2 HV1 HV HT
  obtain ⟨g, hg⟩ : ∃ g, w.heap.size + 1 + 1 = g := ⟨_, rfl⟩
  rw [hg] at HS3 ⊢
  obtain ⟨gr, hgr⟩ : ∃ gr, w.heap.size + 1 = gr := ⟨_, rfl⟩
  rw [hgr] at HS3 ⊢
  obtain ⟨a, ha⟩ : ∃ a, w.heap.size = a := ⟨_, rfl⟩
  have HA := hid ha
  have HS3' : Hid (St_I w w1 w3 a gr g (ck_I rows 0 0 nilS 0 nilS nilS 0 nilS kind_I nilS) xs false) := hid (by rw [← HA.out]; exact HS3.out)
  rw [ha]
  clear HS3 hg hgr ha hsz2 hsA
  refine (HBY1.out w1 w3 gr HS3'.out.rdr).mono ?_
  rintro e w4 ⟨rfl, hr4, hc4⟩
  have HS4 := hid (HS3'.out.step hc4 hr4)
  have e1 : w4.cell? ⟨g, 0 + 1, none⟩ = some (.int .i64 0) := by rw [HS4.out.rowc.cell]; rfl
  have f1 := HS4.out.rowc.frozen (0 + 1)
  clear hr4 hc4 HS3'
  have HS5 := hid (HS4.out.store 1 (.int .i64 cd))
  go_wp2_with fail
  clear e1 f1 HS4
  generalize w4.setCell ⟨g, 1, none⟩ (.int .i64 cd) = w5 at *
  refine (HBY2.out w1 w5 gr HS5.out.rdr).mono ?_
  rintro e w6 ⟨rfl, hr6, hc6⟩
  have HS6 := hid (HS5.out.step hc6 hr6)
  have e1 : w6.cell? ⟨g, 0 + 2, none⟩ = some (.int .i64 0) := by rw [HS6.out.rowc.cell]; rfl
  have f1 := HS6.out.rowc.frozen (0 + 2)
  clear hr6 hc6 HS5
  have HS7 := hid (HS6.out.store 2 (.int .i64 wd))
  go_wp2_with fail
  clear e1 f1 HS6
  generalize w6.setCell ⟨g, 2, none⟩ (.int .i64 wd) = w7 at *
  have hgr7 := HS7.out.rdr.lt
  have hg7 := HS7.out.rowc.lt
  have ha7 := HS7.out.rowa.lt
  refine (HU.out w1 w7 gr HS7.out.rdr hgr7).mono ?_
  rintro e w8 ⟨p, hp, rfl, hrow8, hr8, hc8⟩
  have HS8 := hid (HS7.out.step hc8 hr8)
  have e1 : w8.cell? ⟨g, 0 + 3, none⟩ = some nilS := by rw [HS8.out.rowc.cell]; rfl
  have f1 := HS8.out.rowc.frozen (0 + 3)
  have hpg : p ≠ g := by omega
  have hpgr : p ≠ gr := by omega
  have hpW : w.heap.size ≤ p := by have := HS7.out.ha; omega
  have hpa : p ≠ a := by omega
  have HR8 := hid (((Chg.refl g g w8).setCell g 3 (.slice (some ⟨p, 0, none⟩) nulls.length nulls.length) (.inl rfl)).row hrow8 hpg hpg)
  clear hrow8 hr8 hc8 HS7 hp hg7 ha7 hgr7
  have HS9 : Hid (St_I w w1 (w8.setCell ⟨g, 3, none⟩ (.slice (some ⟨p, 0, none⟩) nulls.length nulls.length)) a gr g (ck_I rows cd wd (.slice (some ⟨p, 0, none⟩) nulls.length nulls.length) 0 nilS nilS 0 nilS kind_I nilS) x3 t3) := hid (HS8.out.store 3 (.slice (some ⟨p, 0, none⟩) nulls.length nulls.length))
  go_upto_region 6 with fail
  clear e1 f1 HS8 HU HBY1 HBY2
  generalize w8.setCell ⟨g, 3, none⟩ (.slice (some ⟨p, 0, none⟩) nulls.length nulls.length) = w9 at *
  have e3 : w9.cell? ⟨g, 0 + 3, none⟩ = some (.slice (some ⟨p, 0, none⟩) nulls.length nulls.length) := by rw [HS9.out.rowc.cell]; rfl
  go_wp2_with fail
  refine (HRK.out w9 _ (HR8.out.rd' (n := nulls.length) (by simp [u64s]) (by unfold maxLen; omega))).mono ?_
  rintro e wA ⟨rfl, nA, rfl⟩
  have HSA := hid (HS9.out.mono (bdrew (brefl w9) nA))
  have HRA := hid (HR8.out.drewN nA)
  go_upto_region 7 with fail
  clear e3 HS9 HR8 HRK
  generalize w9.drewN nA = wA at *
  have hAC : wA.cell? ⟨g, 1, none⟩ = some (.int .i64 cd) := by rw [HSA.out.rowc.cell]; rfl
  cases hok : okPack 1 rows nulls with
  | false =>
    obtain rfl : rk = -1 := by rw [← HRKE.out, rankR, if_neg (by rw [hok]; simp)]
    obtain rfl : OK = false := by rw [← HOK.out, hok]; rfl
    go_quiet (fail)
    have HSB := hid (HSA.out.mono (bdrew (brefl wA) nq))
    generalize wA.drewN nq = wB at *
    obtain ⟨z0, z1, z2, z3, z4, z5, z6, z7, z8, z9, z10⟩ := row11_I HSB.out.rowa
    obtain ⟨f0, f1, f2, f3, f4, f5, f6, f7, f8, f9, f10⟩ := frz11_I HSB.out.rowa
    go_wp2_with fail
    clear z0 z1 z2 z3 z4 z5 z6 z7 z8 z9 z10 f0 f1 f2 f3 f4 f5 f6 f7 f8 f9 f10
    change bodyPost _ _ _ _ _ (setL wB a 0 zeroCk_I)
    have HRF := hid (row_setL0 HSB.out.rowa zeroCk_I rfl)
    have HBF := hid (below_setL a HSB.out.ha zeroCk_I wB 0 HSB.out.bel)
    generalize setL wB a 0 zeroCk_I = wF at *
    obtain ⟨z0, z1, z2, z3, z4, z5, z6, z7, z8, z9, z10⟩ := row11_I HRF.out
    refine bodyPost_ret (v := .tuple #[.agg zeroCk_I.toArray, .bool false]) ?_ rfl ⟨HBF.out, by first | exact .inl ⟨rfl, rfl⟩ | rfl⟩
    simp [results, Tryz.results56, go_sem, z0, z1, z2, z3, z4, z5, z6, z7, z8, z9, z10]
    rfl
  | true =>
    have hrn : rk = ((rankN nulls rows : Nat) : Int) := by rw [← HRKE.out, rankR, if_pos ⟨hok, by omega, by omega⟩]; simp
    have hnr : rankN nulls rows ≤ rows := by unfold rankN; have := List.length_filter_le (bitOf nulls) (List.range rows); rwa [List.length_range] at this
    have hct : k = rows - rankN nulls rows := HK.out.symm
    obtain ⟨n, hn⟩ : ∃ n, rankN nulls rows = n := ⟨_, rfl⟩
    rw [hn] at hrn hnr hct
    subst hrn
    have hok2 := HOK.out
    rw [hok, Bool.true_and] at hok2
    have HOK2 := hid hok2
    have hneg : ¬ ((n : Int) < 0) := by omega
    have hkc : (rows : Int) - (n : Int) = (k : Int) := by omega
    have hkk : k ≤ 65536 := by omega
    have hmn := m_Number_I
    have hnl2 : nulls.length ≤ 65536 := by rw [((okPack_nat (wd := 1) (n := rows) nulls (by decide) hrr).1 hok).1]; exact Nat.le_trans (L.nWords_le (by omega)) hrr
    have hgA : g < wA.heap.size := HSA.out.rowc.lt
    clear hok2 hok HRKE hn hct
    generalize hic : isCodec knum_I cd = ic at *
    have HIC := hid (fun w2 : World => IsCodec_any knum_I cd w2)
    rw [hic] at HIC
    have HICE := hid hic
    clear hic
    unfold knum_I at HIC
    go_region_held3 (fun w' => w'.cell? ⟨g, 1, none⟩ = some (.int .i64 cd)) (go_keep)
      (first
        | (go_at_call 272; refine (IntsNumber_any _).mono ?_; rintro e wN ⟨rfl, hbN⟩; have HSN := hid (HSA.out.mono ((bdrew (brefl wA) 1).trans hbN)); have HRN := hid (HRA.out.mono ((bdrew (brefl wA) 1).trans hbN)); have kN := (hbN.cell (p := ⟨g, 1, none⟩) hgA).trans hAC; clear hbN)
        | (go_at_call 74; refine (HIC.out _).mono ?_; rintro e wM ⟨rfl, hw⟩; replace hw := hw.symm; subst hw))
    clear hAC HSA HRA hmn HIC hneg
    cases ic with
    | false =>
      obtain rfl : OK = false := by rw [← HOK2.out]; rfl
      obtain ⟨z0, z1, z2, z3, z4, z5, z6, z7, z8, z9, z10⟩ := row11_I HSN.out.rowa
      obtain ⟨f0, f1, f2, f3, f4, f5, f6, f7, f8, f9, f10⟩ := frz11_I HSN.out.rowa
      go_wp2_with fail
      clear z0 z1 z2 z3 z4 z5 z6 z7 z8 z9 z10 f0 f1 f2 f3 f4 f5 f6 f7 f8 f9 f10
      change bodyPost _ _ _ _ _ (setL wN a 0 zeroCk_I)
      have HRF := hid (row_setL0 HSN.out.rowa zeroCk_I rfl)
      have HBF := hid (below_setL a HSN.out.ha zeroCk_I wN 0 HSN.out.bel)
      generalize setL wN a 0 zeroCk_I = wF at *
      obtain ⟨z0, z1, z2, z3, z4, z5, z6, z7, z8, z9, z10⟩ := row11_I HRF.out
      refine bodyPost_ret (v := .tuple #[.agg zeroCk_I.toArray, .bool false]) ?_ rfl ⟨HBF.out, by first | exact .inl ⟨rfl, rfl⟩ | rfl⟩
      simp [results, Tryz.results56, go_sem, z0, z1, z2, z3, z4, z5, z6, z7, z8, z9, z10]
      rfl
    | true =>
      have hok3 := HOK2.out
      rw [Bool.true_and] at hok3
      have HOK3 := hid hok3
      clear hok3 HOK2
      have hcdk : 1 ≤ cd ∧ cd ≤ cmax_I := by
        have h := HICE.out
        unfold isCodec knum_I cmax_I at *
        split at h
        · omega
        · simp only [decide_eq_true_eq] at h; omega
      have e4 : wN.cell? ⟨g, 0 + 4, none⟩ = some (.int .i64 0) := by rw [HSN.out.rowc.cell]; rfl
      have f4 := HSN.out.rowc.frozen (0 + 4)
      have HSP := hid (HSN.out.store 4 (.int .i64 k))
      have HRP := hid (((Chg.refl g g wN).setCell g 4 (.int .i64 k) (.inl rfl)).row HRN.out hpg hpg)
      clear HSN HRN kN HICE
      go_upto_region 10 with fail
      clear e4 f4
      generalize wN.setCell ⟨g, 4, none⟩ (.int .i64 k) = wP at *
      have e3 : wP.cell? ⟨g, 0 + 3, none⟩ = some (.slice (some ⟨p, 0, none⟩) nulls.length nulls.length) := by rw [HSP.out.rowc.cell]; rfl
      go_wp2_with fail
      refine (countBefore_any _ nulls wP (HRP.out.rd' (n := nulls.length) (by simp [u64s]) (by unfold maxLen; omega)) hnv hnl2).mono ?_
      rintro e wQ ⟨rfl, hrowB, hbQ⟩
      have hq1 : g < wP.heap.size := HSP.out.rowc.lt
      have hq2 : gr < wP.heap.size := HSP.out.rdr.lt
      have hq3 : a < wP.heap.size := HSP.out.rowa.lt
      have hq4 : w.heap.size ≤ wP.heap.size := HSP.out.bel.size
      have HSQ := hid (HSP.out.mono hbQ)
      have HRQ := hid (HRP.out.mono hbQ)
      have HBQ := hid hrowB
      obtain ⟨q, hq⟩ : ∃ q, wP.heap.size = q := ⟨_, rfl⟩
      rw [hq] at HBQ hq1 hq2 hq3 hq4 ⊢
      have hqg : q ≠ g := by omega
      have hqr : q ≠ gr := by omega
      have hqa : q ≠ a := by omega
      have e10 : wQ.cell? ⟨g, 0 + 10, none⟩ = some nilS := by rw [HSQ.out.rowc.cell]; rfl
      have f10 := HSQ.out.rowc.frozen (0 + 10)
      have HSR : Hid (St_I w w1 (wQ.setCell ⟨g, 10, none⟩ (.slice (some ⟨q, 0, none⟩) nulls.length nulls.length)) a gr g (ck_I rows cd wd (.slice (some ⟨p, 0, none⟩) nulls.length nulls.length) k nilS nilS 0 nilS kind_I (.slice (some ⟨q, 0, none⟩) nulls.length nulls.length)) x3 t3) := hid (HSQ.out.store 10 (.slice (some ⟨q, 0, none⟩) nulls.length nulls.length))
      have HRR := hid (((Chg.refl g g wQ).setCell g 10 (.slice (some ⟨q, 0, none⟩) nulls.length nulls.length) (.inl rfl)).row HRQ.out hpg hpg)
      have HBR := hid (((Chg.refl g g wQ).setCell g 10 (.slice (some ⟨q, 0, none⟩) nulls.length nulls.length) (.inl rfl)).row HBQ.out hqg hqg)
      clear hrowB hbQ HSP HRP HSQ HRQ HBQ hq e3
      go_upto_region 11 with fail
      clear e10 f10
      generalize wQ.setCell ⟨g, 10, none⟩ (.slice (some ⟨q, 0, none⟩) nulls.length nulls.length) = wR at *
      have HPAY := hid (readPayload_I w1 wR g gr x3 t3 rows wd cd k _ _ HT1.out HSR.out.rowc HSR.out.rdr HSR.out.n1 HSR.out.h0 HSR.out.rdr.lt hb3 hl3 hkk hcdk)
      rw [HO.out] at HPAY
      have hr1 : a < wR.heap.size := HSR.out.rowa.lt
      have hr2 : g < wR.heap.size := HSR.out.rowc.lt
      go_wp2_with fail
      refine HPAY.out.mono ?_
      rintro e wS ⟨rfl, hOA⟩
      obtain ⟨⟨lv, ev, nv, hck, hol, hoe, hon⟩, hrS, hcS⟩ := hOA
      rw [HBS.out] at hck
      have HSS := hid (HSR.out.both hcS hck hrS)
      have HRS := hid (hcS.row HRR.out hpg hpgr)
      have HBS2 := hid (hcS.row HBR.out hqg hqr)
      have HOL := hid hol; have HOE := hid hoe; have HON := hid hon
      have hOl : O.left.length ≤ 16777216 := by rw [← HO.out]; exact Nat.le_trans (outPay_left_I cd wd k x3 t3) hl3
      clear hck hol hoe hon hrS hcS HSR HRR HBR HPAY HO
      obtain ⟨ob, ol, os, oli, oen, ola⟩ := O
      simp only at *
      cases ob with
      | false =>
        obtain rfl : OK = false := by rw [← HOK3.out]; rfl
        obtain ⟨z0, z1, z2, z3, z4, z5, z6, z7, z8, z9, z10⟩ := row11_I HSS.out.rowa
        obtain ⟨f0, f1, f2, f3, f4, f5, f6, f7, f8, f9, f10⟩ := frz11_I HSS.out.rowa
        go_wp2_with fail
        clear z0 z1 z2 z3 z4 z5 z6 z7 z8 z9 z10 f0 f1 f2 f3 f4 f5 f6 f7 f8 f9 f10
        change bodyPost _ _ _ _ _ (setL wS a 0 zeroCk_I)
        have HRF := hid (row_setL0 HSS.out.rowa zeroCk_I rfl)
        have HBF := hid (below_setL a HSS.out.ha zeroCk_I wS 0 HSS.out.bel)
        generalize setL wS a 0 zeroCk_I = wF at *
        obtain ⟨z0, z1, z2, z3, z4, z5, z6, z7, z8, z9, z10⟩ := row11_I HRF.out
        refine bodyPost_ret (v := .tuple #[.agg zeroCk_I.toArray, .bool false]) ?_ rfl ⟨HBF.out, by first | exact .inl ⟨rfl, rfl⟩ | rfl⟩
        simp [results, Tryz.results56, go_sem, z0, z1, z2, z3, z4, z5, z6, z7, z8, z9, z10]
        rfl
      | true =>
        cases os with
        | true =>
          obtain rfl : OK = false := by rw [← HOK3.out]; rfl
          obtain ⟨z0, z1, z2, z3, z4, z5, z6, z7, z8, z9, z10⟩ := row11_I HSS.out.rowa
          obtain ⟨f0, f1, f2, f3, f4, f5, f6, f7, f8, f9, f10⟩ := frz11_I HSS.out.rowa
          go_wp2_with (go_at_call 83; refine (Short_any w1 _ gr _ true HSS.out.rdr).mono ?_; rintro e wT ⟨rfl, hw⟩; replace hw := hw.symm; subst hw)
          clear z0 z1 z2 z3 z4 z5 z6 z7 z8 z9 z10 f0 f1 f2 f3 f4 f5 f6 f7 f8 f9 f10
          change bodyPost _ _ _ _ _ (setL wS a 0 zeroCk_I)
          have HRF := hid (row_setL0 HSS.out.rowa zeroCk_I rfl)
          have HBF := hid (below_setL a HSS.out.ha zeroCk_I wS 0 HSS.out.bel)
          generalize setL wS a 0 zeroCk_I = wF at *
          obtain ⟨z0, z1, z2, z3, z4, z5, z6, z7, z8, z9, z10⟩ := row11_I HRF.out
          refine bodyPost_ret (v := .tuple #[.agg zeroCk_I.toArray, .bool false]) ?_ rfl ⟨HBF.out, by first | exact .inl ⟨rfl, rfl⟩ | rfl⟩
          simp [results, Tryz.results56, go_sem, z0, z1, z2, z3, z4, z5, z6, z7, z8, z9, z10]
          rfl
        | false =>
          by_cases hle : ol = []
          case neg =>
            obtain rfl : OK = false := by rw [← HOK3.out]; simp [hle]
            have hlp : 0 < ol.length := List.length_pos_iff.2 hle
            have hgt : (ol.length : Int) > 0 := by omega
            clear hle
            obtain ⟨z0, z1, z2, z3, z4, z5, z6, z7, z8, z9, z10⟩ := row11_I HSS.out.rowa
            obtain ⟨f0, f1, f2, f3, f4, f5, f6, f7, f8, f9, f10⟩ := frz11_I HSS.out.rowa
            go_wp2_with (first | (go_at_call 83; refine (Short_any w1 _ gr _ false HSS.out.rdr).mono ?_; rintro e wT ⟨rfl, hw⟩; replace hw := hw.symm; subst hw) | (go_at_call 84; refine (Left_any w1 _ gr ol false HSS.out.rdr hOl).mono ?_; rintro e wT ⟨rfl, hw⟩; replace hw := hw.symm; subst hw))
            clear z0 z1 z2 z3 z4 z5 z6 z7 z8 z9 z10 f0 f1 f2 f3 f4 f5 f6 f7 f8 f9 f10
            change bodyPost _ _ _ _ _ (setL wS a 0 zeroCk_I)
            have HRF := hid (row_setL0 HSS.out.rowa zeroCk_I rfl)
            have HBF := hid (below_setL a HSS.out.ha zeroCk_I wS 0 HSS.out.bel)
            generalize setL wS a 0 zeroCk_I = wF at *
            obtain ⟨z0, z1, z2, z3, z4, z5, z6, z7, z8, z9, z10⟩ := row11_I HRF.out
            refine bodyPost_ret (v := .tuple #[.agg zeroCk_I.toArray, .bool false]) ?_ rfl ⟨HBF.out, by first | exact .inl ⟨rfl, rfl⟩ | rfl⟩
            simp [results, Tryz.results56, go_sem, z0, z1, z2, z3, z4, z5, z6, z7, z8, z9, z10]
            rfl
          case pos =>
            subst hle
            obtain rfl : OK = true := by rw [← HOK3.out]; rfl
            have hgt : ¬ ((([] : List Nat).length : Int) > 0) := by simp
            obtain ⟨z0, z1, z2, z3, z4, z5, z6, z7, z8, z9, z10⟩ := row11_I HSS.out.rowa
            obtain ⟨f0, f1, f2, f3, f4, f5, f6, f7, f8, f9, f10⟩ := frz11_I HSS.out.rowa
            obtain ⟨Al, cl, rfl, _, _, _⟩ := owns_form HOL.out
            obtain ⟨Ae, ce, rfl, _, _, _⟩ := owns_form HOE.out
            obtain ⟨An, cn, rfl, _, _, _⟩ := owns_form HON.out
            obtain ⟨y0, y1, y2, y3, y4, y5, y6, y7, y8, y9, y10⟩ := row11_I HSS.out.rowc
            unfold i64 at y0 y1 y2 y4 y7
            unfold kind_I at y9
            go_wp2_with (first | (go_at_call 83; refine (Short_any w1 _ gr _ false HSS.out.rdr).mono ?_; rintro e wT ⟨rfl, hw⟩; replace hw := hw.symm; subst hw) | (go_at_call 84; refine (Left_any w1 _ gr [] false HSS.out.rdr hOl).mono ?_; rintro e wT ⟨rfl, hw⟩; replace hw := hw.symm; subst hw))
            clear z0 z1 z2 z3 z4 z5 z6 z7 z8 z9 z10 f0 f1 f2 f3 f4 f5 f6 f7 f8 f9 f10 y0 y1 y2 y3 y4 y5 y6 y7 y8 y9 y10
            change bodyPost _ _ _ _ _ (setL wS a 0 (ck_I rows cd wd (.slice (some ⟨p, 0, none⟩) nulls.length nulls.length) k (.slice Al oli.length cl) (.slice Ae oen.length ce) bs (.slice An ola.length cn) kind_I (.slice (some ⟨q, 0, none⟩) nulls.length nulls.length)))
            have HRF := hid (row_setL0 HSS.out.rowa (ck_I rows cd wd (.slice (some ⟨p, 0, none⟩) nulls.length nulls.length) k (.slice Al oli.length cl) (.slice Ae oen.length ce) bs (.slice An ola.length cn) kind_I (.slice (some ⟨q, 0, none⟩) nulls.length nulls.length)) rfl)
            have HBF := hid (below_setL a HSS.out.ha (ck_I rows cd wd (.slice (some ⟨p, 0, none⟩) nulls.length nulls.length) k (.slice Al oli.length cl) (.slice Ae oen.length ce) bs (.slice An ola.length cn) kind_I (.slice (some ⟨q, 0, none⟩) nulls.length nulls.length)) wS 0 HSS.out.bel)
            have hcf := chg_setL a (ck_I rows cd wd (.slice (some ⟨p, 0, none⟩) nulls.length nulls.length) k (.slice Al oli.length cl) (.slice Ae oen.length ce) bs (.slice An ola.length cn) kind_I (.slice (some ⟨q, 0, none⟩) nulls.length nulls.length)) wS 0
            have G1 := hid ((hcf.row HRS.out hpa hpa).owns (B := w.heap.size) (n := nulls.length) hpW (by simp [u64s]) (by unfold maxLen; omega))
            have G2 := hid ((hcf.row HBS2.out hqa hqa).rd' (n := nulls.length) (by simp [i64s, befL]) (by unfold maxLen; omega))
            have G3 := hid (owns_rd (owns_chg HOL.out hcf hr1 hr1))
            have G4 := hid (owns_rd (owns_chg HOE.out hcf hr1 hr1))
            have G5 := hid (owns_rd (owns_chg HON.out hcf hr1 hr1))
            clear hcf
            generalize setL wS a 0 (ck_I rows cd wd (.slice (some ⟨p, 0, none⟩) nulls.length nulls.length) k (.slice Al oli.length cl) (.slice Ae oen.length ce) bs (.slice An ola.length cn) kind_I (.slice (some ⟨q, 0, none⟩) nulls.length nulls.length)) = wF at *
            obtain ⟨z0, z1, z2, z3, z4, z5, z6, z7, z8, z9, z10⟩ := row11_I HRF.out
            refine bodyPost_ret (v := .tuple #[.agg (ck_I rows cd wd (.slice (some ⟨p, 0, none⟩) nulls.length nulls.length) k (.slice Al oli.length cl) (.slice Ae oen.length ce) bs (.slice An ola.length cn) kind_I (.slice (some ⟨q, 0, none⟩) nulls.length nulls.length)).toArray, .bool true]) ?_ rfl ⟨HBF.out, ?_⟩
            · simp [results, Tryz.results56, go_sem, z0, z1, z2, z3, z4, z5, z6, z7, z8, z9, z10]
              rfl
            · first | exact .inr ⟨rfl, _, _, _, _, _, rfl, G1.out, G3.out, G4.out, G5.out, G2.out⟩ | exact ⟨_, _, _, _, _, rfl, G1.out, G3.out, G4.out, G5.out, G2.out⟩
end Go.Proofs.YthonbfojpbfmgaaGreatDoor

/- Package codec: decode and gather of one kind. -/
set_option linter.unusedVariables false
set_option linter.unusedSimpArgs false
set_option linter.unnecessarySimpa false
set_option maxRecDepth 100000
namespace Go.Proofs.YthonbfojpbfmgaaGreatDoor
open Go.RowKit

/-- value number j of a body -/
def vAt_I (rows : Nat) (xs : List Nat) (j : Nat) : Int := vl_I (headOf rows xs).codec (headOf rows xs).wd (lkOut_I rows xs).list (lkOut_I rows xs).ends (lkBase_I rows xs) (lkOut_I rows xs).lanes j
/-- the cell of a row, by its fields -/
def cellA_I (rows : Nat) (xs : List Nat) (r : Nat) : Bool := bitOf (headOf rows xs).nulls r
def cellB_I (rows : Nat) (xs : List Nat) (r : Nat) : Int := if bitOf (headOf rows xs).nulls r = true then 0 else cB_I (vAt_I rows xs (r - rankN (headOf rows xs).nulls (r + 1)))
def cellC_I (rows : Nat) (xs : List Nat) (r : Nat) : ByteArray := if bitOf (headOf rows xs).nulls r = true then ByteArray.empty else cC_I (vAt_I rows xs (r - rankN (headOf rows xs).nulls (r + 1)))
/-- what a body that is valid has -/
structure Valid_I (rows : Nat) (xs : List Nat) : Prop where
  nl : (headOf rows xs).nulls.length = (rows + 63) / 64
  nv : ∀ x ∈ (headOf rows xs).nulls, x < 18446744073709551616
  ll : (lkOut_I rows xs).list.length ≤ 16777216
  el : (lkOut_I rows xs).ends.length ≤ 16777216
  lv : ∀ x ∈ (lkOut_I rows xs).lanes, x < 18446744073709551616
  ok : ∀ j, j < cntOf rows (headOf rows xs).nulls → okv_I (headOf rows xs).codec (headOf rows xs).wd (lkOut_I rows xs).list (lkOut_I rows xs).ends (lkOut_I rows xs).lanes j

/-- a chunk laid in memory -/
theorem ck_laid_I {w : World} {rows : Nat} {xs : List Nat} {nu lv ev nv bef : Value} (h1 : Rd w nu (headOf rows xs).nulls.length 1 (u64s (headOf rows xs).nulls)) (h2 : Rd w lv (lkOut_I rows xs).list.length 1 (lstI (lkOut_I rows xs).list))
    (h3 : Rd w ev (lkOut_I rows xs).ends.length 1 (nIs (lkOut_I rows xs).ends)) (h4 : Rd w nv (lkOut_I rows xs).lanes.length 1 (u64s (lkOut_I rows xs).lanes)) (h5 : Rd w bef (headOf rows xs).nulls.length 1 (i64s (befL (headOf rows xs).nulls))) :
    Ck_I (w.alloc (.cells (ck_I rows (headOf rows xs).codec (headOf rows xs).wd nu (cntOf rows (headOf rows xs).nulls) lv ev (lkBase_I rows xs) nv kind_I bef).toArray 111)) w.heap.size rows (headOf rows xs).codec (headOf rows xs).wd (headOf rows xs).nulls
      (cntOf rows (headOf rows xs).nulls) (lkOut_I rows xs).list (lkOut_I rows xs).ends (lkBase_I rows xs) (lkOut_I rows xs).lanes := by
  have hb : Below w.heap.size w (w.alloc (.cells (ck_I rows (headOf rows xs).codec (headOf rows xs).wd nu (cntOf rows (headOf rows xs).nulls) lv ev (lkBase_I rows xs) nv kind_I bef).toArray 111)) := (brefl w).alloc (Nat.le_refl _) _
  exact ⟨⟨nu, lv, ev, nv, bef, by unfold Row; rw [heap_alloc_new]; rfl, h1.mono hb, h2.mono hb, h3.mono hb, h4.mono hb, h5.mono hb⟩⟩

end Go.Proofs.YthonbfojpbfmgaaGreatDoor
