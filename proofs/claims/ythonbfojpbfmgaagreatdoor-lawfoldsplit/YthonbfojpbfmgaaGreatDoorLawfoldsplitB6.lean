/- Package chunk: lists of values off the reader. -/
import Derived.Test.YthonbfojpbfmgaaGreatDoorLawfoldsplitB5
import Derived.Laws.BytesString
import Derived.Laws.DeepStrings4
import Derived.Test.YthonbfojpbfmgaaGreatDoorLawfoldsplitB3
set_option linter.unusedVariables false
set_option linter.unusedSimpArgs false
set_option linter.unnecessarySimpa false
set_option maxRecDepth 20000
namespace Go.Proofs.YthonbfojpbfmgaaGreatDoor
open Go.RowKit

/-- the last of the ends of texts, if they are in order -/
def textEnd (last : Int) : List Int → Option Int
  | [] => some last
  | e :: r => if e < last ∨ e - last > 1024 then none else textEnd e r
theorem textEnd_snoc (es : List Int) : ∀ (l e : Int), textEnd l (es ++ [e]) = (textEnd l es).bind fun x => if e < x ∨ e - x > 1024 then none else some e := by
  induction es with
  | nil => intro l e; simp [textEnd]
  | cons a r ih => intro l e; simp only [List.cons_append, textEnd]; split
                   · rfl
                   · exact ih a e
theorem textEnd_none (es fs : List Int) : ∀ l, textEnd l es = none → textEnd l (es ++ fs) = none := by
  induction es with
  | nil => intro l h; simp [textEnd] at h
  | cons a r ih => intro l h; simp only [List.cons_append, textEnd] at h ⊢; split
                   · rfl
                   · rename_i hc; rw [if_neg hc] at h; exact ih a h
def tsz (es : List Int) : Int := (textEnd 0 es).getD 0

set_option maxHeartbeats 1000000 in
theorem textSize_any (v : Value) (es : List Int) (w : World) (hx : Rd w v es.length 1 (i64s es)) (hl : es.length ≤ 16777216) (hs : ∀ e ∈ es, 0 ≤ e ∧ e < 4294967296) :
    Calls Tryz.prog 269 #[v] w fun e w' => e = .returned (.tuple #[.int .i64 (tsz es), .bool (textEnd 0 es).isSome]) ∧ w' = w := by
  obtain ⟨A, ca, rfl, hlc, hcm, hA⟩ := hx.form
  clear hx
  go_enter Tryz.func269, Tryz.ntmps269
  go_wp2
  go_loop [4, 9] (fun u i => ∃ (j : Nat) (l : Int), j ≤ es.length ∧ i = .int .i64 j ∧ u = .int .i64 l ∧ textEnd 0 (es.take j) = some l ∧ 0 ≤ l ∧ l < 4294967296) (fun _ i => es.length - (intOf i).toNat)
  case atStart => exact ⟨0, 0, by omega, rfl, rfl, rfl, by omega, by omega⟩
  case round =>
    obtain ⟨j, l, hj, rfl, rfl, hu, hl0, hl1⟩ := hrel
    have HU := hid hu
    clear hu
    by_cases hlt : j < es.length
    · obtain ⟨b, o, rfl, hseg⟩ := hA (by omega)
      have c1 := hseg.int j hlt
      have hb := hs (es.getD j 0) (by simp [List.getD, List.getElem?_eq_getElem hlt])
      have hsn : textEnd 0 (es.take (j + 1)) = if es.getD j 0 < l ∨ es.getD j 0 - l > 1024 then none else some (es.getD j 0) := by
        rw [List.take_succ_eq_append_getElem hlt, textEnd_snoc, HU.out]
        simp [List.getD, List.getElem?_eq_getElem hlt]
      have HB : Hid (textEnd 0 (es.take (j + 1)) = none → textEnd 0 es = none) := by
        intro h
        have := textEnd_none (es.take (j + 1)) (es.drop (j + 1)) 0 h
        rwa [List.take_append_drop] at this
      have HSN := hid hsn
      clear hsn hseg hA hs
      generalize es.getD j 0 = p at *
      go_wp2
      all_goals first
        | (go_ret2
           have h := HB.out (by rw [HSN.out, if_pos (by omega)])
           exact ⟨by rw [tsz, h]; rfl, rfl⟩)
        | (go_round
           case rel => exact ⟨j + 1, p, by omega, by go_num, rfl, by rw [HSN.out, if_neg (by omega)], by omega, by omega⟩
           case measure => simp [intOf]; omega)
    · go_wp2
      go_ret2
      have hu := HU.out
      rw [show j = es.length from by omega, List.take_length] at hu
      exact ⟨by rw [tsz, hu]; rfl, rfl⟩

theorem owns_chg {w w' : World} {B a b : Nat} {e : TypeId} {v : Value} {n : Nat} {cs : List Value} (h : w.ownsRow B e 1 v n cs) (hc : Chg a b w w') (ha : a < B) (hb : b < B) : w'.ownsRow B e 1 v n cs := by
  refine ⟨h.1, ?_⟩
  rcases h.2 with hn | ⟨g, cap, cur, rfl, hb', hg, r⟩
  · exact .inl hn
  · exact .inr ⟨g, cap, cur, rfl, hb', by rw [hc.block g (Array.getElem?_eq_some_iff.1 hg).1 (by omega) (by omega)]; exact hg, r⟩
/-- a word as an int64 -/
def sgn64 (x : Nat) : Int := wrap64 (x : Int)
theorem Tryz.info64 : (Tryz.prog.info? 2).map (fun i => (i.zero, i.size, i.bytes)) = some (some (.int .i64 0), 1, 8) := by kernel_rfl

/-- what reading a list of so many integers gives: values, is it a list, bytes left, is the reader short -/
def rdI (c : Nat) (xs : List Nat) (s : Bool) : List Int × Bool × List Nat × Bool := ((numL 8 (tk (8 * c) xs)).map sgn64, !tkS (8 * c) xs s, tkL (8 * c) xs, tkS (8 * c) xs s)

set_option maxHeartbeats 2000000 in
theorem readListI_any (w0 w : World) (g : Nat) (xs : List Nat) (s : Bool) (c : Nat) (h : RdrAt w0 w g xs s) (hgs : g < w.heap.size) (hv : ∀ x ∈ xs, x < 256) (hl : xs.length ≤ 16777216) (hc : c ≤ 4294967296) :
    Calls Tryz.prog 274 #[.agg #[], .pointer (some ⟨g, 0, none⟩), .int .i64 c] w fun e w' => ∃ v, e = .returned (.tuple #[v, .bool (rdI c xs s).2.1]) ∧
      w'.ownsRow w.heap.size 2 1 v (rdI c xs s).1.length (i64s (rdI c xs s).1) ∧ RdrAt w0 w' g (rdI c xs s).2.2.1 (rdI c xs s).2.2.2 ∧ Chg g g w w' := by
  obtain ⟨ys, hys⟩ : ∃ ys, numL 8 (tk (8 * c) xs) = ys := ⟨_, rfl⟩
  have hyv : ∀ x ∈ ys, x < 18446744073709551616 := by rw [← hys]; exact numL_lt (tk_lt hv) (by omega)
  have hyl : ys.length ≤ 16777216 := by
    rw [← hys, numL_length]; unfold tk; split
    · rw [List.length_take]; omega
    · simp
  have HY := hid hys
  obtain ⟨s1, hs1⟩ : ∃ s1, tkS (8 * c) xs s = s1 := ⟨_, rfl⟩
  have HS1 := hid hs1
  obtain ⟨B, hB⟩ : ∃ B, w.heap.size = B := ⟨_, rfl⟩
  have HB := hid hB
  have e0 : rdI c xs s = (ys.map sgn64, !s1, tkL (8 * c) xs, s1) := by rw [← hys, ← hs1]; rfl
  rw [e0, hB]
  have HC := hid (fun (w2 : World) (h2 : RdrAt w0 w2 g xs s) (hg2 : g < w2.heap.size) => U64s_any w0 w2 g xs s c h2 hg2 hv hl hc)
  have H := hid h
  clear hys hs1 hB e0 h hv
  go_enter Tryz.func274, Tryz.ntmps274
  go_wp2_with fail
  have hba : Below w.heap.size w (w.alloc (.cells #[] 68)) := (brefl w).alloc (Nat.le_refl _) _
  refine (HC.out _ (H.out.mono hba) (Nat.lt_of_lt_of_le hgs hba.size)).mono ?_
  rintro e w1 ⟨p, hp, rfl, hrow, hat, hch⟩
  rw [HY.out] at hrow ⊢
  rw [HS1.out] at hat
  have HAT := hid hat
  have HCH : Hid (Chg g g w w1) := hid ((Chg.of_below hba).trans hch)
  have HROW := hid hrow
  have hpw : w.heap.size ≤ p := Nat.le_trans hba.size hp
  have hpg : p ≠ g := by omega
  clear hrow hat hch hba hp HC H
  go_wp2
  refine upon_make 2 (.int .i64 0) 8 Tryz.underlying51 Tryz.info64 rfl ys.length (by omega) (by omega) (by omega) (by unfold maxLen; omega) ?_
  intro w2 hrow2 hb2 hsz2
  have hg1 : g < w1.heap.size := Nat.lt_of_lt_of_le hgs HCH.out.size
  have hp1 : p < w1.heap.size := HROW.out.lt
  have hwB : w.heap.size ≤ w1.heap.size := HCH.out.size
  obtain ⟨q, hq⟩ : ∃ q, w1.heap.size = q := ⟨_, rfl⟩
  rw [hq] at hrow2 hb2 hsz2 hg1 hp1 hwB ⊢
  have HROW2 := hid hrow2
  have HB2 := hid hb2
  clear hrow2 hb2 hq
  go_wp2
  go_loopw [20] (fun i wr => ∃ j : Nat, j ≤ ys.length ∧ i = .int .i64 j ∧ Row wr q 2 (i64s ((ys.take j).map sgn64) ++ List.replicate (ys.length - j) (.int .i64 0)) ∧ Below q w1 wr ∧ Hid (q < wr.heap.size)) (fun i _ => ys.length - (intOf i).toNat)
  case atStart => exact ⟨0, by omega, rfl, by simpa [i64s] using HROW2.out, HB2.out, hid (by omega)⟩
  case round =>
    obtain ⟨j, hj, rfl, hr, hb, hz⟩ := hrel
    by_cases hlt : j < ys.length
    · have hcell : wr.cell? ⟨q, j, none⟩ = some (.int .i64 0) := by
        rw [hr.cell]; exact get_fill _ _ _ _ (by simp [i64s, List.length_take]; omega) (by omega)
      have hfr := hr.frozen j
      have hrp : Row wr p 40 (u64s ys) := HROW.out.below hb hp1
      have c1 : wr.cell? ⟨p, j, none⟩ = some (.int .u64 ((ys.getD j 0 : Nat) : Int)) := by rw [hrp.cell]; exact u64s_get ys j hlt
      have hyj := hyv (ys.getD j 0) (by simp [List.getD, List.getElem?_eq_getElem hlt])
      have HSN : Hid ((ys.take (j + 1)).map sgn64 = (ys.take j).map sgn64 ++ [sgn64 (ys.getD j 0)]) := by
        refine hid ?_
        rw [List.take_succ_eq_append_getElem hlt, List.map_append]
        simp [List.getD, List.getElem?_eq_getElem hlt]
      have HR := hid hr
      clear hr hrp
      generalize ys.getD j 0 = x at *
      go_wp2
      go_roundw
      case rel =>
        refine ⟨j + 1, by omega, by go_num, ?_, below_set hb _ _ _ (Nat.le_refl _), ?_⟩
        · have hss := HR.out.set j (.int .i64 (sgn64 x))
          rw [set_fill _ _ _ _ _ (by simp [i64s, List.length_take]; omega) (by omega)] at hss
          rw [HSN.out, i64s_append, ← Nat.sub_sub ys.length j 1]
          exact hss
        · refine hid ?_; have := hz.out; simpa [World.setCell] using this
      case measure => simp [intOf]; omega
    · obtain rfl : j = ys.length := by omega
      have hat2 : RdrAt w0 wr g (tkL (8 * c) xs) s1 := by
        obtain ⟨h1, h2, v, hr1, hr2⟩ := HAT.out
        exact ⟨h1, h2.trans (hb.mono (by omega)), v, hr1.below hb hg1, hr2⟩
      have HAT2 := hid hat2
      have HRR := hid hr
      clear hat2 hr
      go_wp2_with (go_at_call 83; refine (Short_any w0 _ g _ s1 HAT2.out).mono ?_; rintro e w3 ⟨rfl, hw⟩; subst hw)
      go_ret2
      have h1 := HRR.out
      rw [Nat.sub_self, List.replicate_zero, List.append_nil, List.take_length] at h1
      refine ⟨_, rfl, ?_, HAT2.out, HCH.out.then_below hb hwB⟩
      have h2 := h1.owns (B := B) (n := ys.length) (by have := HB.out; omega) (by simp [i64s]) (by unfold maxLen; omega)
      simpa using h2
end Go.Proofs.YthonbfojpbfmgaaGreatDoor

/- Strings out of bytes. -/
set_option linter.unusedVariables false
set_option linter.unusedSimpArgs false
set_option linter.unnecessarySimpa false
set_option maxRecDepth 20000
namespace Go.Proofs.YthonbfojpbfmgaaGreatDoor
open Go.RowKit

def ofBytes (bs : List Nat) : ByteArray := ⟨(bs.map UInt8.ofNat).toArray⟩
theorem ofBytes_size (bs : List Nat) : (ofBytes bs).size = bs.length := by simp [ofBytes, ByteArray.size]
theorem ofBytes_fold (bs : List Nat) : ∀ s : ByteArray, (bs.map (fun n : Nat => (n : Int))).foldl (fun r n => r.push (UInt8.ofNat n.toNat)) s = ⟨s.data ++ (bs.map UInt8.ofNat).toArray⟩ := by
  induction bs with
  | nil => intro s; simp
  | cons b r ih =>
    intro s
    simp only [List.map_cons, List.foldl_cons, Int.toNat_natCast]
    rw [ih]
    congr 1
    simp [ByteArray.push]
theorem ofBytes_extract (bs : List Nat) (i j : Nat) (hj : j ≤ bs.length) : (ofBytes bs).extract i j = ofBytes ((bs.drop i).take (j - i)) := by
  apply ByteArray.ext
  rw [ByteArray.data_extract]
  unfold ofBytes
  simp [List.extract_eq_take_drop, List.map_take, List.map_drop]
theorem run_str {w : World} {v : Value} {xs : List Nat} (h : Rd w v xs.length 1 (u8s xs)) : (convert 22 9 v).run Tryz.prog w = .ok (.string (ofBytes xs)) w := by
  obtain ⟨A, ca, rfl, _, _, hA⟩ := h.form
  rw [run_convert_bytes_string w _ _ 5 A xs.length ca Tryz.underlying22 (by kernel_rfl) (by kernel_rfl)]
  cases A with
  | none =>
    have : xs = [] := by
      rcases Nat.eq_zero_or_pos xs.length with h0 | h0
      · exact List.eq_nil_of_length_eq_zero h0
      · obtain ⟨b, o, e, _⟩ := hA h0; cases e
    subst this
    simp [Conv.bytesToString, Sem.run_pure, ofBytes]
    rfl
  | some a =>
    rw [run_bytesToString w a xs.length ca (xs.map fun n : Nat => (n : Int))]
    · rw [ofBytes_fold]; simp [ofBytes]
    · have hl := run_loadCells_list (P := Tryz.prog) w a (u8s xs) (fun j v hv => by
        have hj : j < xs.length := by
          have := (List.getElem?_eq_some_iff.1 hv).1
          rwa [u8s_length] at this
        obtain ⟨b, o, e, hs⟩ := hA (by omega)
        cases e
        rw [addr_add]
        exact hs j v hv)
      rw [u8s_length] at hl
      rw [hl]
      simp [u8s, u8]
end Go.Proofs.YthonbfojpbfmgaaGreatDoor

/- Package chunk: lists of strings off the reader. -/
set_option linter.unusedVariables false
set_option linter.unusedSimpArgs false
set_option linter.unnecessarySimpa false
set_option maxRecDepth 200000
namespace Go.Proofs.YthonbfojpbfmgaaGreatDoor
open Go.RowKit

theorem textEnd_append (es fs : List Int) : ∀ a, textEnd a (es ++ fs) = (textEnd a es).bind fun l => textEnd l fs := by
  induction es with
  | nil => intro a; simp [textEnd]
  | cons e r ih => intro a; simp only [List.cons_append, textEnd]; split
                   · rfl
                   · exact ih e
theorem textEnd_le (es : List Int) : ∀ a l, textEnd a es = some l → a ≤ l := by
  induction es with
  | nil => intro a l h; simp [textEnd] at h; omega
  | cons e r ih => intro a l h; simp only [textEnd] at h; split at h
                   · cases h
                   · have := ih e l h; omega
theorem textEnd_mem (es : List Int) : ∀ a l, textEnd a es = some l → l = a ∨ l ∈ es := by
  induction es with
  | nil => intro a l h; simp [textEnd] at h; exact .inl h.symm
  | cons e r ih => intro a l h; simp only [textEnd] at h; split at h
                   · cases h
                   · rcases ih e l h with h1 | h1
                     · subst h1; exact .inr (by simp)
                     · exact .inr (by simp [h1])
/-- the strings that the ends cut out of the text -/
def cutS (a : Int) (t : List Nat) : List Int → List ByteArray
  | [] => []
  | e :: r => ofBytes ((t.drop a.toNat).take (e - a).toNat) :: cutS e t r
theorem cutS_length (t : List Nat) (es : List Int) : ∀ a, (cutS a t es).length = es.length := by
  induction es with
  | nil => intro a; rfl
  | cons e r ih => intro a; simp [cutS, ih]
theorem cutS_snoc (t : List Nat) (es : List Int) : ∀ (a e l : Int), textEnd a es = some l → cutS a t (es ++ [e]) = cutS a t es ++ [ofBytes ((t.drop l.toNat).take (e - l).toNat)] := by
  induction es with
  | nil => intro a e l h; simp [textEnd] at h; subst h; simp [cutS]
  | cons x r ih => intro a e l h; simp only [textEnd] at h; split at h
                   · cases h
                   · simp only [List.cons_append, cutS]; rw [ih x e l h]
/-- what reading a list of so many strings gives -/
def rdS (c : Nat) (xs : List Nat) (s : Bool) : List ByteArray × Bool × List Nat × Bool :=
  let ends := nI (numL 4 (tk (4 * c) xs))
  match textEnd 0 ends with
  | none => ([], false, tkL (4 * c) xs, tkS (4 * c) xs s)
  | some sz =>
    if tkS sz.toNat (tkL (4 * c) xs) (tkS (4 * c) xs s) = true then ([], false, tkL sz.toNat (tkL (4 * c) xs), true)
    else (cutS 0 (tk sz.toNat (tkL (4 * c) xs)) ends, true, tkL sz.toNat (tkL (4 * c) xs), false)
theorem tkL_le (n : Nat) (xs : List Nat) : (tkL n xs).length ≤ xs.length := by unfold tkL; split <;> simp
theorem tkL_lt {n : Nat} {xs : List Nat} {B : Nat} (h : ∀ x ∈ xs, x < B) : ∀ x ∈ tkL n xs, x < B := by
  intro x hx; unfold tkL at hx; split at hx
  · exact h x (List.mem_of_mem_drop hx)
  · cases hx
theorem Tryz.infoStr : (Tryz.prog.info? 9).map (fun i => (i.zero, i.size, i.bytes)) = some (some (.string ByteArray.empty), 1, 16) := by kernel_rfl

set_option maxHeartbeats 4000000 in
theorem readListS_any (w0 w : World) (g : Nat) (xs : List Nat) (s : Bool) (c : Nat) (h : RdrAt w0 w g xs s) (hgs : g < w.heap.size) (hv : ∀ x ∈ xs, x < 256) (hl : xs.length ≤ 16777216) (hc : c ≤ 4294967296) :
    Calls Tryz.prog 268 #[.agg #[], .pointer (some ⟨g, 0, none⟩), .int .i64 c] w fun e w' => ∃ v, e = .returned (.tuple #[v, .bool (rdS c xs s).2.1]) ∧
      w'.ownsRow w.heap.size 9 1 v (rdS c xs s).1.length (strs (rdS c xs s).1) ∧ RdrAt w0 w' g (rdS c xs s).2.2.1 (rdS c xs s).2.2.2 ∧ Chg g g w w' := by
  obtain ⟨ys, hys⟩ : ∃ ys, numL 4 (tk (4 * c) xs) = ys := ⟨_, rfl⟩
  have hyv : ∀ x ∈ ys, x < 4294967296 := by rw [← hys]; exact numL4_lt (tk_lt hv)
  have hyl : ys.length ≤ 16777216 := by
    rw [← hys, numL_length]; unfold tk; split
    · rw [List.length_take]; omega
    · simp
  obtain ⟨es, hes⟩ : ∃ es, nI ys = es := ⟨_, rfl⟩
  have hel : ys.length = es.length := by rw [← hes, nI_length]
  have hev : ∀ e ∈ es, 0 ≤ e ∧ e < 4294967296 := by
    rw [← hes]; intro e he
    obtain ⟨y, hy, rfl⟩ := List.mem_map.1 he
    have := hyv y hy
    omega
  obtain ⟨xl, hxl⟩ : ∃ xl, tkL (4 * c) xs = xl := ⟨_, rfl⟩
  have hxll : xl.length ≤ 16777216 := by rw [← hxl]; exact Nat.le_trans (tkL_le _ _) hl
  have hxlv : ∀ x ∈ xl, x < 256 := by rw [← hxl]; exact tkL_lt hv
  obtain ⟨s1, hs1⟩ : ∃ s1, tkS (4 * c) xs s = s1 := ⟨_, rfl⟩
  have e0 : rdS c xs s = match textEnd 0 es with
      | none => ([], false, xl, s1)
      | some sz => if tkS sz.toNat xl s1 = true then ([], false, tkL sz.toNat xl, true) else (cutS 0 (tk sz.toNat xl) es, true, tkL sz.toNat xl, false) := by
    rw [← hes, ← hys, ← hxl, ← hs1]; rfl
  rw [e0]
  have HC : Hid (∀ (w2 : World), RdrAt w0 w2 g xs s → g < w2.heap.size → Calls Tryz.prog 187 #[.pointer (some ⟨g, 0, none⟩), .int .i64 c] w2 fun e w' => ∃ p, w2.heap.size ≤ p ∧
      e = .returned (.slice (some ⟨p, 0, none⟩) es.length es.length) ∧ Row w' p 3 (i64s es) ∧ RdrAt w0 w' g xl s1 ∧ Chg g g w2 w') := by
    intro w2 h2 hg2
    have := U32s_any w0 w2 g xs s c h2 hg2 hv hl hc
    rw [hys, hes, hxl, hs1, hel] at this
    exact this
  have hesl : es.length ≤ 16777216 := by omega
  have H := hid h
  clear hys hes hxl hs1 e0 h hv hyv hel hyl
  obtain ⟨B, hB⟩ : ∃ B, w.heap.size = B := ⟨_, rfl⟩
  have HB := hid hB
  rw [hB]
  clear hB
  have hba : Below w.heap.size w (w.alloc (.cells #[] 66)) := (brefl w).alloc (Nat.le_refl _) _
  have HC1 := hid (HC.out _ (H.out.mono hba) (Nat.lt_of_lt_of_le hgs hba.size))
  have HBA := hid hba
  clear hba HC H
  cases hte : textEnd 0 es with
  | none =>
    have ht1 : tsz es = 0 := by rw [tsz, hte]; rfl
    go_enter Tryz.func268, Tryz.ntmps268
    go_wp2_with fail
    refine HC1.out.mono ?_
    rintro e w1 ⟨p, hp, rfl, hrow, hat, hch⟩
    have HAT := hid hat
    have HCH : Hid (Chg g g w w1) := hid ((Chg.of_below HBA.out).trans hch)
    have HRD := hid (hrow.rd' (n := es.length) (by simp [i64s]) (by unfold maxLen; omega))
    clear hrow hat hch
    go_wp2_with (go_at_call 269; refine (textSize_any _ es _ HRD.out hesl hev).mono ?_; rintro e w2 ⟨rfl, hw⟩; subst hw; rw [hte]; dsimp only [Option.isSome])
    go_ret2
    exact ⟨_, rfl, World.ownsRow_nil _ _ _ _, HAT.out, HCH.out⟩
  | some sz =>
    have hsz0 := textEnd_le es 0 sz hte
    have hsz1 : sz < 4294967296 := by
      rcases textEnd_mem es 0 sz hte with h1 | h1
      · omega
      · exact (hev sz h1).2
    obtain ⟨n, rfl⟩ := Int.eq_ofNat_of_zero_le hsz0
    have ht1 : tsz es = (n : Int) := by rw [tsz, hte]; rfl
    simp only [Int.toNat_natCast]
    obtain ⟨s2, hs2⟩ : ∃ s2, tkS n xl s1 = s2 := ⟨_, rfl⟩
    obtain ⟨t, ht⟩ : ∃ t, tk n xl = t := ⟨_, rfl⟩
    rw [hs2, ht]
    have HS2 := hid hs2
    have HT := hid ht
    have HTE := hid hte
    clear hs2 ht
    go_enter Tryz.func268, Tryz.ntmps268
    go_wp2_with fail
    refine HC1.out.mono ?_
    rintro e w1 ⟨p, hp, rfl, hrow, hat, hch⟩
    have HAT := hid hat
    have HCH : Hid (Chg g g w w1) := hid ((Chg.of_below HBA.out).trans hch)
    have HROW := hid hrow
    have HRD := hid (hrow.rd' (n := es.length) (by simp [i64s]) (by unfold maxLen; omega))
    have hpw : w.heap.size ≤ p := Nat.le_trans HBA.out.size hp
    have hpg : p ≠ g := by omega
    clear hrow hat hch hp HC1 HBA
    go_wp2_with (go_at_call 269; refine (textSize_any _ es _ HRD.out hesl hev).mono ?_; rintro e w2 ⟨rfl, hw⟩; subst hw; rw [HTE.out, ht1]; dsimp only [Option.isSome])
    refine (Take_any w0 _ g xl s1 n HAT.out hxll (by omega)).mono ?_
    rintro e w2 ⟨v, rfl, hrd, hat, hch⟩
    rw [HT.out] at hrd
    rw [HS2.out] at hat
    have HAT2 := hid hat
    have HCH2 : Hid (Chg g g w w2) := hid (HCH.out.trans hch)
    have hcv := run_str (hrd.mono hat.2.1)
    have HROW2 := hid (hch.row HROW.out hpg hpg)
    clear HAT HCH HROW HRD hrd hat hch
    cases s2 with
    | true =>
      go_wp2_with (go_at_call 83; refine (Short_any w0 _ g _ true HAT2.out).mono ?_; rintro e w3 ⟨rfl, hw⟩; subst hw)
      go_ret2
      exact ⟨_, rfl, World.ownsRow_nil _ _ _ _, HAT2.out, HCH2.out⟩
    | false =>
      have htn : n ≤ xl.length ∧ t = xl.take n := by
        have h1 := HS2.out
        have h2 := HT.out
        unfold tkS at h1
        unfold tk at h2
        split at h1
        · rename_i hle
          rw [if_pos hle] at h2
          exact ⟨hle, h2.symm⟩
        · cases h1
      have htl : t.length = n := by rw [htn.2, List.length_take]; omega
      clear HT HS2 htn
      go_wp2_with (go_at_call 83; refine (Short_any w0 _ g _ false HAT2.out).mono ?_; rintro e w3 ⟨rfl, hw⟩; subst hw)
      refine upon_make 9 (.string ByteArray.empty) 16 Tryz.underlying58 Tryz.infoStr rfl es.length (by omega) (by omega) (by omega) (by unfold maxLen; omega) ?_
      intro w4 hrow4 hb4 hsz4
      have hg3 : g < w3.heap.size := Nat.lt_of_lt_of_le hgs HCH2.out.size
      have hp3 : p < w3.heap.size := HROW2.out.lt
      have hw3 : w.heap.size ≤ w3.heap.size := HCH2.out.size
      obtain ⟨q, hq⟩ : ∃ q, w3.heap.size = q := ⟨_, rfl⟩
      rw [hq] at hrow4 hb4 hsz4 hg3 hp3 hw3 ⊢
      have HROW4 := hid hrow4
      have HB4 := hid hb4
      obtain ⟨S, hS⟩ : ∃ S, ofBytes t = S := ⟨_, rfl⟩
      have hSs : S.size = n := by rw [← hS, ofBytes_size, htl]
      have HSS := hid hS
      rw [hS]
      clear hrow4 hb4 hq hcv hS
      go_wp2
      go_loopw [13, 37] (fun u i wr => ∃ (j : Nat) (l : Int), j ≤ es.length ∧ i = .int .i64 j ∧ u = .int .i64 l ∧ Hid (textEnd 0 (es.take j) = some l) ∧ Row wr q 9 (strs (cutS 0 t (es.take j)) ++ List.replicate (es.length - j) (.string ByteArray.empty)) ∧ Below q w3 wr ∧ Hid (q < wr.heap.size)) (fun _ i _ => es.length - (intOf i).toNat)
      case atStart => exact ⟨0, 0, by omega, rfl, rfl, hid rfl, by simpa [strs, cutS] using HROW4.out, HB4.out, hid (by omega)⟩
      case round =>
        obtain ⟨j, l, hj, rfl, rfl, hu, hr, hb, hz⟩ := hrel
        by_cases hlt : j < es.length
        · have hcl : (strs (cutS 0 t (es.take j))).length = j := by rw [strs_length, cutS_length, List.length_take]; omega
          have hcell : wr.cell? ⟨q, j, none⟩ = some (.string ByteArray.empty) := by
            rw [hr.cell]; exact get_fill _ _ _ _ hcl.symm (by omega)
          have hfr := hr.frozen j
          have hrp : Row wr p 3 (i64s es) := HROW2.out.below hb hp3
          have c1 : wr.cell? ⟨p, j, none⟩ = some (.int .i64 (es.getD j 0)) := by rw [hrp.cell]; exact i64s_get es j hlt
          have hej := hev (es.getD j 0) (by simp [List.getD, List.getElem?_eq_getElem hlt])
          have htk : es.take (j + 1) = es.take j ++ [es.getD j 0] := by
            rw [List.take_succ_eq_append_getElem hlt]; simp [List.getD, List.getElem?_eq_getElem hlt]
          have hal := textEnd_append (es.take (j + 1)) (es.drop (j + 1)) 0
          rw [List.take_append_drop, HTE.out, htk, textEnd_snoc, hu.out] at hal
          have hl0 := textEnd_le _ 0 l hu.out
          obtain ⟨hle, hen, hx1⟩ : l ≤ es.getD j 0 ∧ es.getD j 0 ≤ n ∧ ¬ (es.getD j 0 < l ∨ es.getD j 0 - l > 1024) := by
            simp only [Option.bind_some] at hal
            split at hal
            · cases hal
            · rename_i hx
              simp only [Option.bind_some] at hal
              have := textEnd_le _ _ _ hal.symm
              omega
          have HNX : Hid (textEnd 0 (es.take (j + 1)) = some (es.getD j 0)) := hid (by rw [htk, textEnd_snoc, hu.out]; simp only [Option.bind_some]; rw [if_neg hx1])
          have HCUT : Hid (cutS 0 t (es.take (j + 1)) = cutS 0 t (es.take j) ++ [S.extract l.toNat (es.getD j 0).toNat]) := by
            refine hid ?_
            rw [htk, cutS_snoc t _ 0 _ l hu.out, ← HSS.out, ofBytes_extract t _ _ (by omega)]
            congr 5
            omega
          have HR := hid hr
          have HCL := hid hcl
          clear hr hrp hal htk hx1 hcl
          generalize es.getD j 0 = x at *
          go_wp2
          go_roundw
          case rel =>
            refine ⟨j + 1, x, by omega, by go_num, rfl, HNX, ?_, below_set hb _ _ _ (Nat.le_refl _), ?_⟩
            · have hss := HR.out.set j (.string (S.extract l.toNat x.toNat))
              rw [set_fill _ _ _ _ _ HCL.out.symm (by omega)] at hss
              rw [HCUT.out, strs_append, ← Nat.sub_sub es.length j 1]
              exact hss
            · refine hid ?_; have := hz.out; simpa [World.setCell] using this
          case measure => simp [intOf]; omega
        · obtain rfl : j = es.length := by omega
          have hat2 : RdrAt w0 wr g (tkL n xl) false := by
            obtain ⟨h1, h2, v, hr1, hr2⟩ := HAT2.out
            exact ⟨h1, h2.trans (hb.mono (by omega)), v, hr1.below hb hg3, hr2⟩
          have HATF := hid hat2
          have HRR := hid hr
          clear hat2 hr hte ht1 hev hSs HSS htl hsz0 hsz1 HTE hu hj
          go_wp2
          go_ret2
          have h1 := HRR.out
          rw [Nat.sub_self, List.replicate_zero, List.append_nil, List.take_length] at h1
          refine ⟨_, rfl, ?_, HATF.out, HCH2.out.then_below hb hw3⟩
          have h2 := h1.owns (B := B) (n := es.length) (by have := HB.out; omega) (by rw [strs_length, cutS_length]) (by unfold maxLen; omega)
          simpa [cutS_length] using h2
/-- numbers as a list of ints in memory -/
def nIs (xs : List Nat) : List Value := i64s (nI xs)
/-- the words that are left -/
def restW (xs : List Nat) : List Nat := numL 8 (tk (8 * (xs.length / 8)) xs)
theorem restW_len (xs : List Nat) : (restW xs).length = xs.length / 8 := by
  unfold restW; rw [numL_length]; unfold tk; rw [if_pos (by omega), List.length_take]; omega

end Go.Proofs.YthonbfojpbfmgaaGreatDoor

/- Package bitvec's Compare. -/
set_option linter.unusedVariables false
set_option linter.unusedSimpArgs false
set_option linter.unnecessarySimpa false
set_option maxRecDepth 20000
namespace Go.Proofs.YthonbfojpbfmgaaGreatDoor
open Go.RowKit

theorem wordOf_ones (m : Nat) : L.wordOf 1 (List.replicate m 1) = 2 ^ m - 1 := by
  induction m with
  | zero => simp [L.wordOf]
  | succ m ih =>
    rw [List.replicate_succ', L.wordOf_snoc, ih, List.length_replicate, Nat.one_mul, Nat.one_mul, Nat.pow_succ]
    have : 0 < 2 ^ m := Nat.pow_pos (by omega)
    omega
theorem bmL_rep_get (n k : Nat) (b : Bool) (hk : k < L.nWords 1 n) : (bmL (List.replicate n b)).getD k 0 = if b then 2 ^ L.inWord 1 n k - 1 else 0 := by
  unfold bmL
  rw [List.map_replicate, L.packL_get 1 _ k (by simpa using hk), List.drop_replicate, List.take_replicate, wordOf_rep]
  have e : min (64 / 1) (n - k * (64 / 1)) = L.inWord 1 n k := rfl
  rw [e, wordOf_ones]
  cases b <;> simp
theorem bmL_rep_false (n : Nat) : bmL (List.replicate n false) = List.replicate (L.nWords 1 n) 0 := by
  apply L.ext_getD
  · rw [bmL_len]; simp
  · intro k hk
    rw [bmL_len, List.length_replicate] at hk
    rw [bmL_rep_get n k false hk, rep_getD]; simp
set_option maxHeartbeats 1000000 in
theorem uniform_any (n : Nat) (b : Bool) (w : World) (hn : n ≤ 65536) :
    Calls Tryz.prog 89 #[.int .i64 n, .bool b] w fun e w' => e = .returned (.slice (some ⟨w.heap.size, 0, none⟩) (L.nWords 1 n) (L.nWords 1 n)) ∧
      Row w' w.heap.size 40 (u64s (bmL (List.replicate n b))) ∧ Below w.heap.size w w' ∧ w'.heap.size = w.heap.size + 1 := by
  have hml := L.nWords_le (w := 1) (n := n) (by omega)
  have HBW := hid (bitWords_any n w hn)
  have HGET : Hid (∀ k, k < L.nWords 1 n → (bmL (List.replicate n true)).getD k 0 = 2 ^ L.inWord 1 n k - 1) := fun k hk => by rw [bmL_rep_get n k true hk]; rfl
  have HLEN : Hid ((bmL (List.replicate n true)).length = L.nWords 1 n) := by refine hid ?_; rw [bmL_len]; simp
  have HFALSE := hid (bmL_rep_false n)
  have HLT : Hid (∀ k, k < L.nWords 1 n → k * 64 < n) := fun k hk => by have := (L.lt_nWords (w := 1) (by omega) (by omega)).1 hk; omega
  generalize L.nWords 1 n = m at *
  cases b
  · go_enter Tryz.func89, Tryz.ntmps89
    go_wp2_with (go_at_call 91; refine HBW.out.mono ?_; rintro e w' ⟨rfl, rfl⟩)
    refine upon_make 40 (.int .u64 0) 8 Tryz.underlying28 Tryz.info45 rfl m (by omega) (by omega) (by omega) (by unfold maxLen; omega) ?_
    intro w1 hrow hb1 hsz1
    have HZ1 := hid hsz1
    clear hsz1
    go_wp2
    go_ret
    refine ⟨rfl, ?_, hb1, HZ1.out⟩
    rw [HFALSE.out]
    have e : u64s (List.replicate m 0) = List.replicate m (.int .u64 0) := by simp [u64s, u64]
    rw [e]; exact hrow
  · go_enter Tryz.func89, Tryz.ntmps89
    go_wp2_with (go_at_call 91; refine HBW.out.mono ?_; rintro e w' ⟨rfl, rfl⟩)
    refine upon_make 40 (.int .u64 0) 8 Tryz.underlying28 Tryz.info45 rfl m (by omega) (by omega) (by omega) (by unfold maxLen; omega) ?_
    intro w1 hrow hb1 hsz1
    have HZ1 := hid hsz1
    clear hsz1
    go_wp2
    go_loopw [15] (fun i wr => ∃ k : Nat, k ≤ m ∧ i = .int .i64 k ∧ Row wr w'.heap.size 40 (u64s ((bmL (List.replicate n true)).take k) ++ List.replicate (m - k) (.int .u64 0)) ∧ Below w'.heap.size w' wr ∧ Hid (wr.heap.size = w'.heap.size + 1)) (fun i _ => m - (intOf i).toNat)
    case atStart => exact ⟨0, by omega, rfl, by simpa [u64s] using hrow, hb1, HZ1⟩
    case round =>
      obtain ⟨k, hk, rfl, hr, hb, hz⟩ := hrel
      clear hrow hb1 HZ1
      by_cases hlt : k < m
      · have hcell : wr.cell? ⟨w'.heap.size, k, none⟩ = some (.int .u64 0) := by
          rw [hr.cell]; exact get_fill _ _ _ _ (by simp [u64s, HLEN.out]; omega) (by omega)
        have hfr := hr.frozen k
        have HR := hid hr
        clear hr
        have hkn := HLT.out k hlt
        have hg := HGET.out k hlt
        obtain ⟨c, hc⟩ : ∃ c, L.inWord 1 n k = c := ⟨_, rfl⟩
        have hc64 : c ≤ 64 := by have := L.inWord_le 1 n k; omega
        rw [hc] at hg
        have HC := hid hc; have HG := hid hg
        clear hc hg
        obtain ⟨z, hzz⟩ : ∃ z, 2 ^ c - 1 = z := ⟨_, rfl⟩
        have HZZ := hid hzz
        clear hzz
        go_wp2_with (first
          | (go_at_call 93; refine (lanesInWord_any 1 n k c _ (by omega) (by omega) (by omega) (by omega) HC.out).mono ?_; rintro e w'' ⟨rfl, rfl⟩)
          | (go_at_call 68; refine (lowBits_any c _ (by omega)).mono ?_; rintro e w'' ⟨rfl, rfl⟩; rw [HZZ.out]))
        go_roundw
        case rel =>
          refine ⟨k + 1, by omega, by go_num, ?_, below_set hb _ _ _ (Nat.le_refl _), ?_⟩
          · have hs := HR.out.set k (.int .u64 (z : Int))
            rw [set_fill _ _ _ _ _ (by simp [u64s, HLEN.out]; omega) (by omega)] at hs
            have hlk : k < (bmL (List.replicate n true)).length := by rw [HLEN.out]; exact hlt
            rw [List.take_succ_eq_append_getElem hlk, u64s_append, ← Nat.sub_sub m k 1]
            have e : (bmL (List.replicate n true))[k] = z := by
              have := HG.out
              rw [HZZ.out] at this
              simpa [List.getD, List.getElem?_eq_getElem hlk] using this
            rw [e]
            exact hs
          · show _ = _; rw [← hz.out]; simp [World.setCell]
        case measure => simp [intOf]; omega
      · obtain rfl : k = m := by omega
        go_wp2
        go_ret
        refine ⟨rfl, ?_, hb, hz.out⟩
        rw [List.take_of_length_le (by rw [HLEN.out]; exact Nat.le_refl _), Nat.sub_self] at hr
        simpa using hr

theorem stands_far (op : Int) (a c : Nat) (h : a < c) : standsB op a c = standsB op 0 c := by
  unfold standsB
  have h1 : ¬ a = c := by omega
  have h2 : ¬ 0 = c := by omega
  have h3 : a ≤ c := by omega
  have h4 : 0 ≤ c := by omega
  have h5 : ¬ c < a := by omega
  have h6 : ¬ c < 0 := by omega
  have h7 : 0 < c := by omega
  have h8 : ¬ c ≤ a := by omega
  have h9 : ¬ c ≤ 0 := by omega
  simp [h1, h2, h3, h4, h5, h6, h7, h8, h9, h]
theorem cmp_uniform (wd n : Nat) (op : Int) (xs : List Nat) (c : Nat) (h : wd = 0 ∨ 2 ^ wd ≤ c) : (List.range n).map (cmpF wd op xs c) = List.replicate n (standsB op 0 c) := by
  apply List.eq_replicate_iff.2
  refine ⟨by simp, fun b hb => ?_⟩
  obtain ⟨i, _, rfl⟩ := List.mem_map.1 hb
  unfold cmpF
  rcases h with h | h
  · subst h; simp [L.laneOf]
  · exact stands_far op _ c (Nat.lt_of_lt_of_le (L.laneOf_lt wd xs i) h)

theorem shl_u64 (a q : Nat) (h : a * 2 ^ q < 18446744073709551616) : IntKind.u64.wrap ((a : Int) * 2 ^ q) = ((a * 2 ^ q : Nat) : Int) := wrap_shl a q h
theorem mul_u64 (a b : Nat) (h : a * b < 18446744073709551616) : IntKind.u64.wrap ((a : Int) * (b : Int)) = ((a * b : Nat) : Int) := by
  have e : ((a : Int) * (b : Int)) = ((a * b : Nat) : Int) := by simp
  rw [e, wrap_u64_nat _ h]

set_option maxHeartbeats 4000000 in
theorem Compare_any (v : Value) (xs : List Nat) (wd n op : Int) (c : Nat) (w : World) (ht : Tab w) (hx : Rd w v xs.length 1 (u64s xs)) (hv : ∀ x ∈ xs, x < 18446744073709551616) (hc : c < 18446744073709551616) (hl : xs.length ≤ maxLen) :
    Calls Tryz.prog 52 #[v, .int .i64 wd, .int .i64 n, .int .i64 op, .int .u64 c] w fun e w' => ∃ r, e = .returned (.tuple #[r, .bool (cmpOk wd n op xs)]) ∧
      w'.ownsRow w.heap.size 40 1 r (cmpR wd n op xs c).length (u64s (cmpR wd n op xs c)) ∧ Below w.heap.size w w' := by
  have HISP := hid (isPacking_any v xs wd n w hx hv hl)
  have HREL := hid (isRelation_any op w)
  unfold maxLen at hl
  obtain ⟨A, ca, rfl, hlc, hcm, hA⟩ := hx.form
  have HX := hid hx
  clear hx hlc hcm
  cases hrel : isRel op
  · have hno : cmpOk wd n op xs = false := by simp [cmpOk, hrel]
    have hf : cmpR wd n op xs c = [] := by rw [cmpR, hno]; rfl
    have HNO := hid hno; have HF := hid hf
    rw [hrel] at HREL
    clear hno hf hrel
    go_enter Tryz.func52, Tryz.ntmps52
    go_wp2_with (go_at_call 87; refine HREL.out.mono ?_; rintro e w' ⟨rfl, rfl⟩)
    go_ret2
    exact ⟨.slice none 0 0, by rw [HNO.out]; rfl, by rw [HF.out]; exact World.ownsRow_nil _ _ _ _, Below.refl _ _⟩
  · rw [hrel] at HREL
    cases hok : okPack wd n xs
    · have hno : cmpOk wd n op xs = false := by simp [cmpOk, hok]
      have hf : cmpR wd n op xs c = [] := by rw [cmpR, hno]; rfl
      have HNO := hid hno; have HF := hid hf
      rw [hok] at HISP
      clear hno hf hrel hok
      go_enter Tryz.func52, Tryz.ntmps52
      go_wp2_with (first
        | (go_at_call 87; refine HREL.out.mono ?_; rintro e w' ⟨rfl, rfl⟩)
        | (go_at_call 88; refine HISP.out.mono ?_; rintro e w' ⟨rfl, rfl⟩))
      go_ret2
      exact ⟨.slice none 0 0, by rw [HNO.out]; rfl, by rw [HF.out]; exact World.ownsRow_nil _ _ _ _, Below.refl _ _⟩
    · have hin : 0 ≤ wd ∧ wd ≤ 64 ∧ 0 ≤ n ∧ n ≤ 65536 := by
        have := hok; simp only [okPack, okLim, Bool.and_eq_true, decide_eq_true_eq] at this; exact this.1
      obtain ⟨wd, rfl⟩ := Int.eq_ofNat_of_zero_le hin.1
      obtain ⟨n, rfl⟩ := Int.eq_ofNat_of_zero_le hin.2.2.1
      have hwd : wd ≤ 64 := by omega
      have hn : n ≤ 65536 := by omega
      have HIP := hid ((okPack_nat xs hwd hn).1 hok)
      have hyes : cmpOk (wd : Int) (n : Int) op xs = true := by simp [cmpOk, hok, hrel]
      have hf : cmpR (wd : Int) (n : Int) op xs c = bmL ((List.range n).map (cmpF wd op xs c)) := by rw [cmpR, hyes]; rfl
      have HYES := hid hyes; have HF := hid hf
      rw [hok] at HISP
      clear hyes hf hrel hok hin
      by_cases hu : wd = 0 ∨ 2 ^ wd ≤ c
      · have HU := hid (cmp_uniform wd n op xs c hu)
        have h2 : 0 < 2 ^ wd := Nat.pow_pos (by omega)
        have HUNI := hid (uniform_any n (standsB op 0 c) w hn)
        have hml := L.nWords_le (w := 1) (n := n) (by omega)
        have e0 : (bmL (List.replicate n (standsB op 0 c))).length = L.nWords 1 n := by rw [bmL_len]; simp
        have fin : ∀ w2, Row w2 w.heap.size 40 (u64s (bmL (List.replicate n (standsB op 0 c)))) → Below w.heap.size w w2 →
            ∃ r, Ending.returned (.tuple #[.slice (some ⟨w.heap.size, 0, none⟩) (L.nWords 1 n) (L.nWords 1 n), .bool true]) = .returned (.tuple #[r, .bool (cmpOk (wd : Int) (n : Int) op xs)]) ∧
              w2.ownsRow w.heap.size 40 1 r (cmpR (wd : Int) (n : Int) op xs c).length (u64s (cmpR (wd : Int) (n : Int) op xs c)) ∧ Below w.heap.size w w2 := by
          intro w2 hr2 hb2
          refine ⟨.slice (some ⟨w.heap.size, 0, none⟩) (L.nWords 1 n) (L.nWords 1 n), by rw [HYES.out], ?_, hb2⟩
          rw [HF.out, HU.out, e0]
          exact Row.owns hr2 (Nat.le_refl _) (by rw [u64s_length, e0]) (by unfold maxLen; omega)
        clear e0
        rcases Nat.eq_zero_or_pos wd with hz | hz
        · subst hz
          clear hu
          go_enter Tryz.func52, Tryz.ntmps52
          go_wp2_with (first
            | (go_at_call 87; refine HREL.out.mono ?_; rintro e w' ⟨rfl, rfl⟩)
            | (go_at_call 88; refine HISP.out.mono ?_; rintro e w' ⟨rfl, rfl⟩)
            | (go_at_call 90; refine (standsIn_any 0 op c _).mono ?_; rintro e w' ⟨rfl, rfl⟩)
            | (go_at_call 89; refine HUNI.out.mono ?_; rintro e w2 ⟨rfl, hr2, hb2, _⟩))
          go_ret2
          exact fin _ hr2 hb2
        · have hwz : ((wd : Int) == 0) = false := by simpa using (show wd ≠ 0 by omega)
          have hzc : 2 ^ wd - 1 < c := by rcases hu with h | h <;> omega
          generalize hzz : 2 ^ wd - 1 = z at *
          have HZZ := hid hzz
          clear hu h2 hzz
          go_enter Tryz.func52, Tryz.ntmps52
          go_wp2_with (first
            | (go_at_call 87; refine HREL.out.mono ?_; rintro e w' ⟨rfl, rfl⟩)
            | (go_at_call 88; refine HISP.out.mono ?_; rintro e w' ⟨rfl, rfl⟩)
            | (go_at_call 68; refine (lowBits_any wd _ (by omega)).mono ?_; rintro e w' ⟨rfl, rfl⟩; rw [HZZ.out])
            | (go_at_call 90; refine (standsIn_any 0 op c _).mono ?_; rintro e w' ⟨rfl, rfl⟩)
            | (go_at_call 89; refine HUNI.out.mono ?_; rintro e w2 ⟨rfl, hr2, hb2, _⟩))
          go_ret2
          exact fin _ hr2 hb2
      · have hw0 : 0 < wd := by omega
        have hcw : c < 2 ^ wd := by omega
        have hwz : ((wd : Int) == 0) = false := by simpa using (show wd ≠ 0 by omega)
        have hcz : c ≤ 2 ^ wd - 1 := by omega
        obtain ⟨p, hp⟩ : ∃ p, 64 / wd = p := ⟨_, rfl⟩
        have hpw : p * wd ≤ 64 := by rw [← hp]; exact L.per_mul wd
        have h1w : (1 : Nat) < 2 ^ wd := Nat.one_lt_two_pow (by omega)
        obtain ⟨q, rfl⟩ : ∃ q, wd = q + 1 := ⟨wd - 1, by omega⟩
        have hqq : (((q + 1 : Nat) : Int)) - 1 = (q : Int) := by omega
        have hqp : 2 ^ q < 2 ^ (q + 1) := Nat.pow_lt_pow_right (by omega) (by omega)
        have hones := wordOf_lt64 (q + 1) p (List.replicate p 1) (by simp) (rep_lt h1w) hpw
        have htops := wordOf_lt64 (q + 1) p (List.replicate p (2 ^ q)) (by simp) (rep_lt hqp) hpw
        have hspr := wordOf_lt64 (q + 1) p (List.replicate p c) (by simp) (rep_lt hcw) hpw
        have e1 : L.wordOf (q + 1) (List.replicate p 1) * 2 ^ q = L.wordOf (q + 1) (List.replicate p (2 ^ q)) := by rw [wordOf_rep (q + 1) p (2 ^ q), Nat.mul_comm]
        have e2 : L.wordOf (q + 1) (List.replicate p 1) * c = L.wordOf (q + 1) (List.replicate p c) := by rw [wordOf_rep (q + 1) p c, Nat.mul_comm]
        have HEL := hid (everyLane_any (q + 1) p w hw0 hwd hp)
        have HBW := hid (bitWords_any n w hn)
        have hsh := shl_u64 (L.wordOf (q + 1) (List.replicate p 1)) q (by rw [e1]; exact htops)
        have hmu := mul_u64 (L.wordOf (q + 1) (List.replicate p 1)) c (by rw [e2]; exact hspr)
        rw [e1] at hsh
        rw [e2] at hmu
        generalize hzz : 2 ^ (q + 1) - 1 = z at *
        have HZZ := hid hzz; have HP := hid hp; have HH1 := hid hones; have HH2 := hid htops; have HH3 := hid hspr
        have hml := L.nWords_le (w := 1) (n := n) (by omega)
        clear hu hzz hp hones htops hspr e1 e2 h1w hqp
        generalize hO : L.wordOf (q + 1) (List.replicate p 1) = O at *
        generalize hT : L.wordOf (q + 1) (List.replicate p (2 ^ q)) = T at *
        generalize hS : L.wordOf (q + 1) (List.replicate p c) = S at *
        have HO := hid hO; have HTT := hid hT; have HS := hid hS
        clear hO hT hS
        generalize hmm : L.nWords 1 n = m at *
        have HMM := hid hmm
        clear hmm
        generalize hwq : q + 1 = wd at *
        have HWQ := hid hwq
        clear hwq
        go_enter Tryz.func52, Tryz.ntmps52
        go_wp2_with (first
          | (go_at_call 87; refine HREL.out.mono ?_; rintro e w' ⟨rfl, rfl⟩)
          | (go_at_call 88; refine HISP.out.mono ?_; rintro e w' ⟨rfl, rfl⟩)
          | (go_at_call 68; refine (lowBits_any wd _ (by omega)).mono ?_; rintro e w' ⟨rfl, rfl⟩; rw [HZZ.out])
          | (go_at_call 91; refine HBW.out.mono ?_; rintro e w' ⟨rfl, rfl⟩))
        refine upon_make 40 (.int .u64 0) 8 Tryz.underlying28 Tryz.info45 rfl m (by omega) (by omega) (by omega) (by unfold maxLen; omega) ?_
        intro w1 hrow hb1 hsz1
        have HZ1 := hid hsz1
        clear hsz1
        go_wp2_with fail
        refine (everyLane_any wd p _ hw0 hwd HP.out).mono ?_
        rintro e w1' ⟨rfl, rfl⟩
        rw [HO.out]
        go_wp2_with fail
        have hgt : 0 < w'.heap.size := ht.lt
        have HT := hid ht
        go_loopw [58] (fun i wr => ∃ (k : Nat) (zs : List Nat), k ≤ xs.length ∧ i = .int .i64 k ∧ Row wr w'.heap.size 40 (u64s zs) ∧ zs.length = m ∧ (∀ x ∈ zs, x < 18446744073709551616) ∧
            (∀ j, bitOf zs j = (decide (j < k * p ∧ j < n) && cmpF wd op xs c j)) ∧ Below w'.heap.size w' wr ∧ Hid (wr.heap.size = w'.heap.size + 1)) (fun i _ => xs.length - (intOf i).toNat)
        case atStart =>
          refine ⟨0, List.replicate m 0, by omega, rfl, by simpa [u64s, u64] using hrow, by simp, rep_lt (by omega), fun j => ?_, hb1, HZ1⟩
          have : bitOf (List.replicate m 0) j = false := by
            unfold bitOf; rw [rep_getD]; split <;> simp
          rw [this]; simp
        case round =>
          obtain ⟨k, zs, hk, rfl, hr, hzl, hzv, hzb, hb, hz⟩ := hrel
          clear hrow hb1 HZ1 ht
          have HR := hid hr; have HZL := hid hzl; have HZV := hid hzv; have HZB := hid hzb
          clear hr hzl hzv hzb
          by_cases hlt : k < xs.length
          · obtain ⟨b, o, rfl, hs⟩ := hA (by omega)
            have c1 := (hs.mono (hb.mono (Nat.le_refl _))).word k hlt
            have hxk := hv (xs.getD k 0) (by simp [List.getD, List.getElem?_eq_getElem hlt])
            have hkp : k * (64 / wd) < n := (L.lt_nWords hw0 hwd).1 (by rw [← HIP.out.1]; exact hlt)
            obtain ⟨cn, hcn⟩ : ∃ cn, L.inWord wd n k = cn := ⟨_, rfl⟩
            have hxl := HIP.out.2 k hlt
            rw [hcn] at hxl
            have hcp : cn ≤ p := by rw [← hcn, ← HP.out]; exact Nat.min_le_left _ _
            have hcw2 : cn * wd ≤ 64 := by rw [← hcn]; exact L.inWord_le wd n k
            have HKP := hid hkp; have HCN := hid hcn
            have hcn2 : cn = min p (n - k * p) := by rw [← hcn, L.inWord, HP.out]
            rw [HP.out] at hkp
            obtain ⟨fst, hfst⟩ : ∃ fst, k * p = fst := ⟨_, rfl⟩
            have hf' : (k : Int) * (p : Int) = (fst : Int) := by rw [← hfst]; simp
            rw [hfst] at hkp hcn2
            obtain ⟨u, hu⟩ : ∃ u, cn * wd = u := ⟨_, rfl⟩
            have hu' : (cn : Int) * (wd : Int) = (u : Int) := by rw [← hu]; simp
            have hu64 : u ≤ 64 := by omega
            have HU := hid hu; have HFST := hid hfst; have HCN2 := hid hcn2
            have HXP : Hid (L.wordOf wd ((List.range p).map fun j => xs.getD k 0 / 2 ^ (j * wd) % 2 ^ wd) = xs.getD k 0) :=
              L.wordOf_lanes wd p (xs.getD k 0) (Nat.lt_of_lt_of_le hxl (Nat.pow_le_pow_right (by omega) (Nat.mul_le_mul_right wd hcp)))
            have HXV : Hid (∀ x ∈ (List.range p).map fun j => xs.getD k 0 / 2 ^ (j * wd) % 2 ^ wd, x < 2 ^ wd) := by
              intro x hx; obtain ⟨j, _, rfl⟩ := List.mem_map.1 hx; exact Nat.mod_lt _ (Nat.pow_pos (by omega))
            have HLN : Hid (∀ j, j < p → cmpF wd op xs c (k * p + j) = standsB op (xs.getD k 0 / 2 ^ (j * wd) % 2 ^ wd) c) := by
              intro j hj
              have e1 : (k * p + j) / p = k := by rw [Nat.mul_comm k p, Nat.mul_add_div (by omega), Nat.div_eq_of_lt hj, Nat.add_zero]
              have e2 : (k * p + j) % p = j := by rw [Nat.mul_comm k p, Nat.mul_add_mod, Nat.mod_eq_of_lt hj]
              simp only [cmpF, L.laneOf, show wd ≠ 0 from by omega, if_false, HP.out, e1, e2]
            clear hs hA hcn hfst hu hcn2 hxl
            generalize hxx : xs.getD k 0 = x at *
            clear hxx
            have hla : ((List.range p).map fun j => x / 2 ^ (j * wd) % 2 ^ wd).length = p := by simp
            have hlb : (List.replicate p c).length = p := by simp
            have hxvb := rep_lt (n := p) hcw
            have HIT : Hid (∀ i, hitAt wd fst (cmpN op x S T &&& (2 ^ u - 1)) i = (decide (fst ≤ i ∧ i < fst + cn) && cmpF wd op xs c i)) := by
              intro i
              have h1 := hits_at (w := q) op cn fst i hla hlb (by rw [HWQ.out]; exact HXV.out) (by rw [HWQ.out]; exact hxvb) (by rw [HWQ.out]; exact hpw) hcp
              rw [HWQ.out, HXP.out, HS.out, HTT.out, HU.out] at h1
              rw [h1]
              by_cases hi : fst ≤ i ∧ i < fst + cn
              · have hj : i - fst < p := by omega
                have h2 := HLN.out (i - fst) hj
                rw [HFST.out, show fst + (i - fst) = i from by omega] at h2
                have h3 : ((List.range p).map fun j => x / 2 ^ (j * wd) % 2 ^ wd).getD (i - fst) 0 = x / 2 ^ ((i - fst) * wd) % 2 ^ wd := by
                  simp [List.getD, List.getElem?_range hj]
                rw [h2, h3, rep_getD, if_pos hj]
              · rw [decide_eq_false hi, Bool.false_and, Bool.false_and]
            have hn1 := (L.notLess (w := q) hla hlb (by rw [HWQ.out]; exact HXV.out) (by rw [HWQ.out]; exact hxvb) (by rw [HWQ.out]; exact hpw)).1
            have hn2 := (L.notLess (w := q) hlb hla (by rw [HWQ.out]; exact hxvb) (by rw [HWQ.out]; exact HXV.out) (by rw [HWQ.out]; exact hpw)).1
            rw [HWQ.out, HXP.out, HS.out, HTT.out] at hn1 hn2
            have HCW := hid (compareWord_any x S T op wr hxk HH3.out HH2.out hn1 hn2)
            have hX64 : cmpN op x S T < 18446744073709551616 := by
              have h1 := lessN_lt x S T HH2.out
              have h2 := lessN_lt S x T HH2.out
              unfold cmpN
              split
              · exact and_lt64 _ HH2.out
              · split
                · exact or_lt64 h1 h2
                · split
                  · exact h1
                  · split
                    · exact and_lt64 _ HH2.out
                    · split
                      · exact h2
                      · exact and_lt64 _ HH2.out
            have hZ64 : 2 ^ u - 1 < 18446744073709551616 := by have := pow_le_64 hu64; have : 0 < 2 ^ u := Nat.pow_pos (by omega); omega
            have hand := u64_and_nat _ _ hX64 hZ64
            have HFIT : Hid (∀ b, (cmpN op x S T &&& (2 ^ u - 1)).testBit b = true → fst + b / wd < 64 * m) := by
              intro b hb
              rw [Nat.testBit_and, Nat.testBit_two_pow_sub_one] at hb
              simp only [Bool.and_eq_true, decide_eq_true_eq] at hb
              have h1 : b / wd < cn := Nat.div_lt_of_lt_mul (by rw [Nat.mul_comm, HU.out]; exact hb.2)
              have h2 := nWords1_le n
              rw [HMM.out] at h2
              have h3 := HCN2.out
              generalize b / wd = e at *
              omega
            have HH4 := hid (and_lt64 (2 ^ u - 1) hX64)
            clear hn1 hn2 hla hlb hxvb hX64 hZ64
            generalize hXX : cmpN op x S T = X at *
            generalize hZ2 : 2 ^ u - 1 = Z2 at *
            have HZ2 := hid hZ2
            generalize hHH : X &&& Z2 = H at *
            have HXA := hid HXV
            clear hXX hZ2 hHH HXP HXV HXA
            go_wp2_with (first
              | (go_at_call 93; refine (lanesInWord_any _ _ _ cn _ (by omega) (by omega) (by omega) (Nat.le_of_lt HKP.out) HCN.out).mono ?_; rintro e w'' ⟨rfl, rfl⟩)
              | (go_at_call 68; refine (lowBits_any u _ (by omega)).mono ?_; rintro e w'' ⟨rfl, rfl⟩; rw [HZ2.out])
              | (go_at_call 94; refine HCW.out.mono ?_; rintro e w'' ⟨rfl, rfl⟩)
              | (go_at_call 96; refine (lanesPerWord_any _ p _ (by omega) (by omega) HP.out).mono ?_; rintro e w'' ⟨rfl, rfl⟩)
              | (go_at_call 95; refine (markLanes_any _ m m fst wd H zs _ (HT.out.mono hb hgt) hgt HR.out HZL.out (Nat.le_refl _) (by omega) HZV.out hw0 hwd HH4.out (by omega) HFIT.out).mono ?_; rintro e w2 ⟨rfl, ⟨zs2, hr2, hl2, hv2, hb2⟩, hbb2, hs2⟩; have HB2 := hid hb2; have HR2 := hid hr2; have HL2 := hid hl2; have HV2 := hid hv2; have HS2 := hid hs2; clear hb2 hr2 hl2 hv2 hs2))
            go_roundw
            case rel =>
              refine ⟨k + 1, zs2, by omega, by go_num, HR2.out, HL2.out, HV2.out, fun j => ?_, hb.trans hbb2, ?_⟩
              · rw [HB2.out j, HZB.out j, HIT.out j, HFST.out, Nat.succ_mul, HFST.out]
                have h3 := HCN2.out
                by_cases h1 : j < fst ∧ j < n
                · have h2 : j < fst + p ∧ j < n := by omega
                  have h4 : ¬ (fst ≤ j ∧ j < fst + cn) := by omega
                  simp [h1, h2, h4]
                · by_cases h2 : fst ≤ j ∧ j < fst + cn
                  · have h4 : j < fst + p ∧ j < n := by omega
                    simp [h1, h2, h4]
                  · have h4 : ¬ (j < fst + p ∧ j < n) := by omega
                    rw [decide_eq_false h1, decide_eq_false h2, decide_eq_false h4]; simp
              · show _ = _; rw [HS2.out]; exact hz.out
            case measure => simp [intOf]; omega
          · obtain rfl : k = xs.length := by omega
            go_wp2
            go_ret2
            have hge : n ≤ xs.length * p := by
              have h1 := (L.lt_nWords (n := n) (k := xs.length) hw0 hwd).2
              rw [← HIP.out.1, HP.out] at h1
              rcases Nat.lt_or_ge (xs.length * p) n with h2 | h2
              · have := h1 h2; omega
              · exact h2
            have hbm : IsBm n zs (cmpF wd op xs c) := by
              refine ⟨by rw [HZL.out, HMM.out], HZV.out, fun i _ => ?_⟩
              rw [HZB.out i]
              congr 1
              rw [decide_eq_decide]; omega
            have heq := hbm.eq_bmL
            refine ⟨.slice (some ⟨w'.heap.size, 0, none⟩) m m, by rw [HYES.out]; rfl, ?_, hb⟩
            rw [HF.out, ← heq, HZL.out]
            exact Row.owns HR.out (Nat.le_refl _) (by rw [u64s_length, HZL.out]) (by unfold maxLen; omega)
end Go.Proofs.YthonbfojpbfmgaaGreatDoor

/- Package chunk: what readLanes asks. -/
set_option maxRecDepth 512
set_option linter.unusedVariables false
namespace Go.Proofs.YthonbfojpbfmgaaGreatDoor
open Go.RowKit
/-- do the lanes pack, and stands none of them in the relation op to lim? -/
def lanesB (wd k op : Int) (ws : List Nat) (lim : Nat) : Bool := cmpOk wd k op ws && (rankR k k (cmpR wd k op ws lim) == 0)
def nilS : Value := .slice none 0 0
theorem rd_left_I (c : Nat) (xs : List Nat) (s : Bool) : (rdI c xs s).2.2.1.length ≤ xs.length ∧ ∀ B, (∀ x ∈ xs, x < B) → ∀ x ∈ (rdI c xs s).2.2.1, x < B := by
  unfold rdI
  exact ⟨tkL_le _ _, fun B h => tkL_lt h⟩
theorem rd_len_I (c : Nat) (xs : List Nat) (s : Bool) (hl : xs.length ≤ 16777216) : (rdI c xs s).1.length ≤ 16777216 := by
  unfold rdI
  simp only [List.length_map, numL_length]
  unfold tk; split
  · rw [List.length_take]; omega
  · simp

def lstI (xs : List Int) : List Value := i64s xs
def lstS (xs : List ByteArray) : List Value := strs xs
def vI (x : Int) : Value := .int .i64 x
def vS (x : ByteArray) : Value := .string x
def dfI : Int := 0
def dfS : ByteArray := default
theorem lstI_get (xs : List Int) (i : Nat) (h : i < xs.length) : (lstI xs)[i]? = some (vI (xs.getD i dfI)) := i64s_get xs i h
theorem lstS_get (xs : List ByteArray) (i : Nat) (h : i < xs.length) : (lstS xs)[i]? = some (vS (xs.getD i dfS)) := strs_get xs i h
theorem rd_left_S (c : Nat) (xs : List Nat) (s : Bool) : (rdS c xs s).2.2.1.length ≤ xs.length ∧ ∀ B, (∀ x ∈ xs, x < B) → ∀ x ∈ (rdS c xs s).2.2.1, x < B := by
  unfold rdS
  simp only
  split
  · exact ⟨tkL_le _ _, fun B h => tkL_lt h⟩
  · split
    · exact ⟨Nat.le_trans (tkL_le _ _) (tkL_le _ _), fun B h => tkL_lt (tkL_lt h)⟩
    · exact ⟨Nat.le_trans (tkL_le _ _) (tkL_le _ _), fun B h => tkL_lt (tkL_lt h)⟩
theorem rd_len_S (c : Nat) (xs : List Nat) (s : Bool) (hl : xs.length ≤ 16777216) : (rdS c xs s).1.length ≤ 16777216 := by
  have h1 : (nI (numL 4 (tk (4 * c) xs))).length ≤ 16777216 := by
    rw [nI_length, numL_length]; unfold tk; split
    · rw [List.length_take]; omega
    · simp
  unfold rdS
  simp only
  split
  · simp
  · split
    · simp
    · rw [cutS_length]; exact h1
end Go.Proofs.YthonbfojpbfmgaaGreatDoor

/- The plain answer's numbers off a list of bytes. -/
set_option linter.unusedVariables false
set_option linter.unusedSimpArgs false
set_option linter.unnecessarySimpa false
set_option maxRecDepth 100000
namespace Go.Proofs.YthonbfojpbfmgaaGreatDoor
open Go.RowKit

def numOk (size p n : Nat) : Bool := decide (p ≤ n ∧ size ≤ n - p)
end Go.Proofs.YthonbfojpbfmgaaGreatDoor
