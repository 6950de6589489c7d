/- Package chunk: lists of values off the reader. -/
import Derived.Test.YtdlkdiaobbakiaaGreatDoorSearch
set_option linter.unusedVariables false
set_option linter.unusedSimpArgs false
set_option linter.unnecessarySimpa false
set_option maxRecDepth 20000
namespace Go.Proofs.YtdlkdiaobbakiaaGreatDoor
open Go.RowKit

/-- the last of the ends of texts, if they are in order -/
def textEnd (last : Int) : List Int → Option Int
  | [] => some last
  | e :: r => if e < last ∨ e - last > 1024 then none else textEnd e r
theorem textEnd_snoc (es : List Int) : ∀ (l e : Int), textEnd l (es ++ [e]) = (textEnd l es).bind fun x => if e < x ∨ e - x > 1024 then none else some e := by
  induction es with
  | nil => intro l e; simp [textEnd]
  | cons a r ih => intro l e; simp only [List.cons_append, textEnd]; split
                   · rfl
                   · exact ih a e
theorem textEnd_none (es fs : List Int) : ∀ l, textEnd l es = none → textEnd l (es ++ fs) = none := by
  induction es with
  | nil => intro l h; simp [textEnd] at h
  | cons a r ih => intro l h; simp only [List.cons_append, textEnd] at h ⊢; split
                   · rfl
                   · rename_i hc; rw [if_neg hc] at h; exact ih a h
def tsz (es : List Int) : Int := (textEnd 0 es).getD 0

set_option maxHeartbeats 1000000 in
theorem textSize_any (v : Value) (es : List Int) (w : World) (hx : Rd w v es.length 1 (i64s es)) (hl : es.length ≤ 1048576) (hs : ∀ e ∈ es, 0 ≤ e ∧ e < 4294967296) :
    Calls Tryz.prog 220 #[v] w fun e w' => e = .returned (.tuple #[.int .i64 (tsz es), .bool (textEnd 0 es).isSome]) ∧ w' = w := by
  obtain ⟨A, ca, rfl, hlc, hcm, hA⟩ := hx.form
  clear hx
  go_enter Tryz.func220, Tryz.ntmps220
  go_wp2
  go_loop [4, 9] (fun u i => ∃ (j : Nat) (l : Int), j ≤ es.length ∧ i = .int .i64 j ∧ u = .int .i64 l ∧ textEnd 0 (es.take j) = some l ∧ 0 ≤ l ∧ l < 4294967296) (fun _ i => es.length - (intOf i).toNat)
  case atStart => exact ⟨0, 0, by omega, rfl, rfl, rfl, by omega, by omega⟩
  case round =>
    obtain ⟨j, l, hj, rfl, rfl, hu, hl0, hl1⟩ := hrel
    have HU := hid hu
    clear hu
    by_cases hlt : j < es.length
    · obtain ⟨b, o, rfl, hseg⟩ := hA (by omega)
      have c1 := hseg.int j hlt
      have hb := hs (es.getD j 0) (by simp [List.getD, List.getElem?_eq_getElem hlt])
      have hsn : textEnd 0 (es.take (j + 1)) = if es.getD j 0 < l ∨ es.getD j 0 - l > 1024 then none else some (es.getD j 0) := by
        rw [List.take_succ_eq_append_getElem hlt, textEnd_snoc, HU.out]
        simp [List.getD, List.getElem?_eq_getElem hlt]
      have HB : Hid (textEnd 0 (es.take (j + 1)) = none → textEnd 0 es = none) := by
        intro h
        have := textEnd_none (es.take (j + 1)) (es.drop (j + 1)) 0 h
        rwa [List.take_append_drop] at this
      have HSN := hid hsn
      clear hsn hseg hA hs
      generalize es.getD j 0 = p at *
      go_wp2
      all_goals first
        | (go_ret2
           have h := HB.out (by rw [HSN.out, if_pos (by omega)])
           exact ⟨by rw [tsz, h]; rfl, rfl⟩)
        | (go_round
           case rel => exact ⟨j + 1, p, by omega, by go_num, rfl, by rw [HSN.out, if_neg (by omega)], by omega, by omega⟩
           case measure => simp [intOf]; omega)
    · go_wp2
      go_ret2
      have hu := HU.out
      rw [show j = es.length from by omega, List.take_length] at hu
      exact ⟨by rw [tsz, hu]; rfl, rfl⟩

theorem owns_chg {w w' : World} {B a b : Nat} {e : TypeId} {v : Value} {n : Nat} {cs : List Value} (h : w.ownsRow B e 1 v n cs) (hc : Chg a b w w') (ha : a < B) (hb : b < B) : w'.ownsRow B e 1 v n cs := by
  refine ⟨h.1, ?_⟩
  rcases h.2 with hn | ⟨g, cap, cur, rfl, hb', hg, r⟩
  · exact .inl hn
  · exact .inr ⟨g, cap, cur, rfl, hb', by rw [hc.block g (Array.getElem?_eq_some_iff.1 hg).1 (by omega) (by omega)]; exact hg, r⟩
/-- a word as an int64 -/
def sgn64 (x : Nat) : Int := wrap64 (x : Int)
theorem Tryz.info64 : (Tryz.prog.info? 2).map (fun i => (i.zero, i.size, i.bytes)) = some (some (.int .i64 0), 1, 8) := by kernel_rfl

/-- what reading a list of so many integers gives: values, is it a list, bytes left, is the reader short -/
def rdI (c : Nat) (xs : List Nat) (s : Bool) : List Int × Bool × List Nat × Bool := ((numL 8 (tk (8 * c) xs)).map sgn64, !tkS (8 * c) xs s, tkL (8 * c) xs, tkS (8 * c) xs s)

set_option maxHeartbeats 2000000 in
theorem readListI_any (w0 w : World) (g : Nat) (xs : List Nat) (s : Bool) (c : Nat) (h : RdrAt w0 w g xs s) (hgs : g < w.heap.size) (hv : ∀ x ∈ xs, x < 256) (hl : xs.length ≤ 1048576) (hc : c ≤ 4294967296) :
    Calls Tryz.prog 225 #[.agg #[], .pointer (some ⟨g, 0, none⟩), .int .i64 c] w fun e w' => ∃ v, e = .returned (.tuple #[v, .bool (rdI c xs s).2.1]) ∧
      w'.ownsRow w.heap.size 2 1 v (rdI c xs s).1.length (i64s (rdI c xs s).1) ∧ RdrAt w0 w' g (rdI c xs s).2.2.1 (rdI c xs s).2.2.2 ∧ Chg g g w w' := by
  obtain ⟨ys, hys⟩ : ∃ ys, numL 8 (tk (8 * c) xs) = ys := ⟨_, rfl⟩
  have hyv : ∀ x ∈ ys, x < 18446744073709551616 := by rw [← hys]; exact numL_lt (tk_lt hv) (by omega)
  have hyl : ys.length ≤ 1048576 := by
    rw [← hys, numL_length]; unfold tk; split
    · rw [List.length_take]; omega
    · simp
  have HY := hid hys
  obtain ⟨s1, hs1⟩ : ∃ s1, tkS (8 * c) xs s = s1 := ⟨_, rfl⟩
  have HS1 := hid hs1
  obtain ⟨B, hB⟩ : ∃ B, w.heap.size = B := ⟨_, rfl⟩
  have HB := hid hB
  have e0 : rdI c xs s = (ys.map sgn64, !s1, tkL (8 * c) xs, s1) := by rw [← hys, ← hs1]; rfl
  rw [e0, hB]
  have HC := hid (fun (w2 : World) (h2 : RdrAt w0 w2 g xs s) (hg2 : g < w2.heap.size) => U64s_any w0 w2 g xs s c h2 hg2 hv hl hc)
  have H := hid h
  clear hys hs1 hB e0 h hv
  go_enter Tryz.func225, Tryz.ntmps225
  go_wp2_with fail
  have hba : Below w.heap.size w (w.alloc (.cells #[] 46)) := (brefl w).alloc (Nat.le_refl _) _
  refine (HC.out _ (H.out.mono hba) (Nat.lt_of_lt_of_le hgs hba.size)).mono ?_
  rintro e w1 ⟨p, hp, rfl, hrow, hat, hch⟩
  rw [HY.out] at hrow ⊢
  rw [HS1.out] at hat
  have HAT := hid hat
  have HCH : Hid (Chg g g w w1) := hid ((Chg.of_below hba).trans hch)
  have HROW := hid hrow
  have hpw : w.heap.size ≤ p := Nat.le_trans hba.size hp
  have hpg : p ≠ g := by omega
  clear hrow hat hch hba hp HC H
  go_wp2
  refine upon_make 2 (.int .i64 0) 8 Tryz.underlying80 Tryz.info64 rfl ys.length (by omega) (by omega) (by omega) (by unfold maxLen; omega) ?_
  intro w2 hrow2 hb2 hsz2
  have hg1 : g < w1.heap.size := Nat.lt_of_lt_of_le hgs HCH.out.size
  have hp1 : p < w1.heap.size := HROW.out.lt
  have hwB : w.heap.size ≤ w1.heap.size := HCH.out.size
  obtain ⟨q, hq⟩ : ∃ q, w1.heap.size = q := ⟨_, rfl⟩
  rw [hq] at hrow2 hb2 hsz2 hg1 hp1 hwB ⊢
  have HROW2 := hid hrow2
  have HB2 := hid hb2
  clear hrow2 hb2 hq
  go_wp2
  go_loopw [20] (fun i wr => ∃ j : Nat, j ≤ ys.length ∧ i = .int .i64 j ∧ Row wr q 2 (i64s ((ys.take j).map sgn64) ++ List.replicate (ys.length - j) (.int .i64 0)) ∧ Below q w1 wr ∧ Hid (q < wr.heap.size)) (fun i _ => ys.length - (intOf i).toNat)
  case atStart => exact ⟨0, by omega, rfl, by simpa [i64s] using HROW2.out, HB2.out, hid (by omega)⟩
  case round =>
    obtain ⟨j, hj, rfl, hr, hb, hz⟩ := hrel
    by_cases hlt : j < ys.length
    · have hcell : wr.cell? ⟨q, j, none⟩ = some (.int .i64 0) := by
        rw [hr.cell]; exact get_fill _ _ _ _ (by simp [i64s, List.length_take]; omega) (by omega)
      have hfr := hr.frozen j
      have hrp : Row wr p 68 (u64s ys) := HROW.out.below hb hp1
      have c1 : wr.cell? ⟨p, j, none⟩ = some (.int .u64 ((ys.getD j 0 : Nat) : Int)) := by rw [hrp.cell]; exact u64s_get ys j hlt
      have hyj := hyv (ys.getD j 0) (by simp [List.getD, List.getElem?_eq_getElem hlt])
      have HSN : Hid ((ys.take (j + 1)).map sgn64 = (ys.take j).map sgn64 ++ [sgn64 (ys.getD j 0)]) := by
        refine hid ?_
        rw [List.take_succ_eq_append_getElem hlt, List.map_append]
        simp [List.getD, List.getElem?_eq_getElem hlt]
      have HR := hid hr
      clear hr hrp
      generalize ys.getD j 0 = x at *
      go_wp2
      go_roundw
      case rel =>
        refine ⟨j + 1, by omega, by go_num, ?_, below_set hb _ _ _ (Nat.le_refl _), ?_⟩
        · have hss := HR.out.set j (.int .i64 (sgn64 x))
          rw [set_fill _ _ _ _ _ (by simp [i64s, List.length_take]; omega) (by omega)] at hss
          rw [HSN.out, i64s_append, ← Nat.sub_sub ys.length j 1]
          exact hss
        · refine hid ?_; have := hz.out; simpa [World.setCell] using this
      case measure => simp [intOf]; omega
    · obtain rfl : j = ys.length := by omega
      have hat2 : RdrAt w0 wr g (tkL (8 * c) xs) s1 := by
        obtain ⟨h1, h2, v, hr1, hr2⟩ := HAT.out
        exact ⟨h1, h2.trans (hb.mono (by omega)), v, hr1.below hb hg1, hr2⟩
      have HAT2 := hid hat2
      have HRR := hid hr
      clear hat2 hr
      go_wp2_with (go_at_call 72; refine (Short_any w0 _ g _ s1 HAT2.out).mono ?_; rintro e w3 ⟨rfl, hw⟩; subst hw)
      go_ret2
      have h1 := HRR.out
      rw [Nat.sub_self, List.replicate_zero, List.append_nil, List.take_length] at h1
      refine ⟨_, rfl, ?_, HAT2.out, HCH.out.then_below hb hwB⟩
      have h2 := h1.owns (B := B) (n := ys.length) (by have := HB.out; omega) (by simp [i64s]) (by unfold maxLen; omega)
      simpa using h2
end Go.Proofs.YtdlkdiaobbakiaaGreatDoor
