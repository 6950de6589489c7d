/- Package chunk: lists of strings off the reader. -/
import Derived.Test.YtdlkdiaobbakiaaGreatDoorStr
set_option linter.unusedVariables false
set_option linter.unusedSimpArgs false
set_option linter.unnecessarySimpa false
set_option maxRecDepth 200000
namespace Go.Proofs.YtdlkdiaobbakiaaGreatDoor
open Go.RowKit

theorem textEnd_append (es fs : List Int) : ∀ a, textEnd a (es ++ fs) = (textEnd a es).bind fun l => textEnd l fs := by
  induction es with
  | nil => intro a; simp [textEnd]
  | cons e r ih => intro a; simp only [List.cons_append, textEnd]; split
                   · rfl
                   · exact ih e
theorem textEnd_le (es : List Int) : ∀ a l, textEnd a es = some l → a ≤ l := by
  induction es with
  | nil => intro a l h; simp [textEnd] at h; omega
  | cons e r ih => intro a l h; simp only [textEnd] at h; split at h
                   · cases h
                   · have := ih e l h; omega
theorem textEnd_mem (es : List Int) : ∀ a l, textEnd a es = some l → l = a ∨ l ∈ es := by
  induction es with
  | nil => intro a l h; simp [textEnd] at h; exact .inl h.symm
  | cons e r ih => intro a l h; simp only [textEnd] at h; split at h
                   · cases h
                   · rcases ih e l h with h1 | h1
                     · subst h1; exact .inr (by simp)
                     · exact .inr (by simp [h1])
/-- the strings that the ends cut out of the text -/
def cutS (a : Int) (t : List Nat) : List Int → List ByteArray
  | [] => []
  | e :: r => ofBytes ((t.drop a.toNat).take (e - a).toNat) :: cutS e t r
theorem cutS_length (t : List Nat) (es : List Int) : ∀ a, (cutS a t es).length = es.length := by
  induction es with
  | nil => intro a; rfl
  | cons e r ih => intro a; simp [cutS, ih]
theorem cutS_snoc (t : List Nat) (es : List Int) : ∀ (a e l : Int), textEnd a es = some l → cutS a t (es ++ [e]) = cutS a t es ++ [ofBytes ((t.drop l.toNat).take (e - l).toNat)] := by
  induction es with
  | nil => intro a e l h; simp [textEnd] at h; subst h; simp [cutS]
  | cons x r ih => intro a e l h; simp only [textEnd] at h; split at h
                   · cases h
                   · simp only [List.cons_append, cutS]; rw [ih x e l h]
/-- what reading a list of so many strings gives -/
def rdS (c : Nat) (xs : List Nat) (s : Bool) : List ByteArray × Bool × List Nat × Bool :=
  let ends := nI (numL 4 (tk (4 * c) xs))
  match textEnd 0 ends with
  | none => ([], false, tkL (4 * c) xs, tkS (4 * c) xs s)
  | some sz =>
    if tkS sz.toNat (tkL (4 * c) xs) (tkS (4 * c) xs s) = true then ([], false, tkL sz.toNat (tkL (4 * c) xs), true)
    else (cutS 0 (tk sz.toNat (tkL (4 * c) xs)) ends, true, tkL sz.toNat (tkL (4 * c) xs), false)
theorem tkL_le (n : Nat) (xs : List Nat) : (tkL n xs).length ≤ xs.length := by unfold tkL; split <;> simp
theorem tkL_lt {n : Nat} {xs : List Nat} {B : Nat} (h : ∀ x ∈ xs, x < B) : ∀ x ∈ tkL n xs, x < B := by
  intro x hx; unfold tkL at hx; split at hx
  · exact h x (List.mem_of_mem_drop hx)
  · cases hx
theorem Tryz.infoStr : (Tryz.prog.info? 9).map (fun i => (i.zero, i.size, i.bytes)) = some (some (.string ByteArray.empty), 1, 16) := by kernel_rfl

set_option maxHeartbeats 4000000 in
theorem readListS_any (w0 w : World) (g : Nat) (xs : List Nat) (s : Bool) (c : Nat) (h : RdrAt w0 w g xs s) (hgs : g < w.heap.size) (hv : ∀ x ∈ xs, x < 256) (hl : xs.length ≤ 1048576) (hc : c ≤ 4294967296) :
    Calls Tryz.prog 219 #[.agg #[], .pointer (some ⟨g, 0, none⟩), .int .i64 c] w fun e w' => ∃ v, e = .returned (.tuple #[v, .bool (rdS c xs s).2.1]) ∧
      w'.ownsRow w.heap.size 9 1 v (rdS c xs s).1.length (strs (rdS c xs s).1) ∧ RdrAt w0 w' g (rdS c xs s).2.2.1 (rdS c xs s).2.2.2 ∧ Chg g g w w' := by
  obtain ⟨ys, hys⟩ : ∃ ys, numL 4 (tk (4 * c) xs) = ys := ⟨_, rfl⟩
  have hyv : ∀ x ∈ ys, x < 4294967296 := by rw [← hys]; exact numL4_lt (tk_lt hv)
  have hyl : ys.length ≤ 1048576 := by
    rw [← hys, numL_length]; unfold tk; split
    · rw [List.length_take]; omega
    · simp
  obtain ⟨es, hes⟩ : ∃ es, nI ys = es := ⟨_, rfl⟩
  have hel : ys.length = es.length := by rw [← hes, nI_length]
  have hev : ∀ e ∈ es, 0 ≤ e ∧ e < 4294967296 := by
    rw [← hes]; intro e he
    obtain ⟨y, hy, rfl⟩ := List.mem_map.1 he
    have := hyv y hy
    omega
  obtain ⟨xl, hxl⟩ : ∃ xl, tkL (4 * c) xs = xl := ⟨_, rfl⟩
  have hxll : xl.length ≤ 1048576 := by rw [← hxl]; exact Nat.le_trans (tkL_le _ _) hl
  have hxlv : ∀ x ∈ xl, x < 256 := by rw [← hxl]; exact tkL_lt hv
  obtain ⟨s1, hs1⟩ : ∃ s1, tkS (4 * c) xs s = s1 := ⟨_, rfl⟩
  have e0 : rdS c xs s = match textEnd 0 es with
      | none => ([], false, xl, s1)
      | some sz => if tkS sz.toNat xl s1 = true then ([], false, tkL sz.toNat xl, true) else (cutS 0 (tk sz.toNat xl) es, true, tkL sz.toNat xl, false) := by
    rw [← hes, ← hys, ← hxl, ← hs1]; rfl
  rw [e0]
  have HC : Hid (∀ (w2 : World), RdrAt w0 w2 g xs s → g < w2.heap.size → Calls Tryz.prog 134 #[.pointer (some ⟨g, 0, none⟩), .int .i64 c] w2 fun e w' => ∃ p, w2.heap.size ≤ p ∧
      e = .returned (.slice (some ⟨p, 0, none⟩) es.length es.length) ∧ Row w' p 3 (i64s es) ∧ RdrAt w0 w' g xl s1 ∧ Chg g g w2 w') := by
    intro w2 h2 hg2
    have := U32s_any w0 w2 g xs s c h2 hg2 hv hl hc
    rw [hys, hes, hxl, hs1, hel] at this
    exact this
  have hesl : es.length ≤ 1048576 := by omega
  have H := hid h
  clear hys hes hxl hs1 e0 h hv hyv hel hyl
  obtain ⟨B, hB⟩ : ∃ B, w.heap.size = B := ⟨_, rfl⟩
  have HB := hid hB
  rw [hB]
  clear hB
  have hba : Below w.heap.size w (w.alloc (.cells #[] 44)) := (brefl w).alloc (Nat.le_refl _) _
  have HC1 := hid (HC.out _ (H.out.mono hba) (Nat.lt_of_lt_of_le hgs hba.size))
  have HBA := hid hba
  clear hba HC H
  cases hte : textEnd 0 es with
  | none =>
    have ht1 : tsz es = 0 := by rw [tsz, hte]; rfl
    go_enter Tryz.func219, Tryz.ntmps219
    go_wp2_with fail
    refine HC1.out.mono ?_
    rintro e w1 ⟨p, hp, rfl, hrow, hat, hch⟩
    have HAT := hid hat
    have HCH : Hid (Chg g g w w1) := hid ((Chg.of_below HBA.out).trans hch)
    have HRD := hid (hrow.rd' (n := es.length) (by simp [i64s]) (by unfold maxLen; omega))
    clear hrow hat hch
    go_wp2_with (go_at_call 220; refine (textSize_any _ es _ HRD.out hesl hev).mono ?_; rintro e w2 ⟨rfl, hw⟩; subst hw; rw [hte]; dsimp only [Option.isSome])
    go_ret2
    exact ⟨_, rfl, World.ownsRow_nil _ _ _ _, HAT.out, HCH.out⟩
  | some sz =>
    have hsz0 := textEnd_le es 0 sz hte
    have hsz1 : sz < 4294967296 := by
      rcases textEnd_mem es 0 sz hte with h1 | h1
      · omega
      · exact (hev sz h1).2
    obtain ⟨n, rfl⟩ := Int.eq_ofNat_of_zero_le hsz0
    have ht1 : tsz es = (n : Int) := by rw [tsz, hte]; rfl
    simp only [Int.toNat_natCast]
    obtain ⟨s2, hs2⟩ : ∃ s2, tkS n xl s1 = s2 := ⟨_, rfl⟩
    obtain ⟨t, ht⟩ : ∃ t, tk n xl = t := ⟨_, rfl⟩
    rw [hs2, ht]
    have HS2 := hid hs2
    have HT := hid ht
    have HTE := hid hte
    clear hs2 ht
    go_enter Tryz.func219, Tryz.ntmps219
    go_wp2_with fail
    refine HC1.out.mono ?_
    rintro e w1 ⟨p, hp, rfl, hrow, hat, hch⟩
    have HAT := hid hat
    have HCH : Hid (Chg g g w w1) := hid ((Chg.of_below HBA.out).trans hch)
    have HROW := hid hrow
    have HRD := hid (hrow.rd' (n := es.length) (by simp [i64s]) (by unfold maxLen; omega))
    have hpw : w.heap.size ≤ p := Nat.le_trans HBA.out.size hp
    have hpg : p ≠ g := by omega
    clear hrow hat hch hp HC1 HBA
    go_wp2_with (go_at_call 220; refine (textSize_any _ es _ HRD.out hesl hev).mono ?_; rintro e w2 ⟨rfl, hw⟩; subst hw; rw [HTE.out, ht1]; dsimp only [Option.isSome])
    refine (Take_any w0 _ g xl s1 n HAT.out hxll (by omega)).mono ?_
    rintro e w2 ⟨v, rfl, hrd, hat, hch⟩
    rw [HT.out] at hrd
    rw [HS2.out] at hat
    have HAT2 := hid hat
    have HCH2 : Hid (Chg g g w w2) := hid (HCH.out.trans hch)
    have hcv := run_str (hrd.mono hat.2.1)
    have HROW2 := hid (hch.row HROW.out hpg hpg)
    clear HAT HCH HROW HRD hrd hat hch
    cases s2 with
    | true =>
      go_wp2_with (go_at_call 72; refine (Short_any w0 _ g _ true HAT2.out).mono ?_; rintro e w3 ⟨rfl, hw⟩; subst hw)
      go_ret2
      exact ⟨_, rfl, World.ownsRow_nil _ _ _ _, HAT2.out, HCH2.out⟩
    | false =>
      have htn : n ≤ xl.length ∧ t = xl.take n := by
        have h1 := HS2.out
        have h2 := HT.out
        unfold tkS at h1
        unfold tk at h2
        split at h1
        · rename_i hle
          rw [if_pos hle] at h2
          exact ⟨hle, h2.symm⟩
        · cases h1
      have htl : t.length = n := by rw [htn.2, List.length_take]; omega
      clear HT HS2 htn
      go_wp2_with (go_at_call 72; refine (Short_any w0 _ g _ false HAT2.out).mono ?_; rintro e w3 ⟨rfl, hw⟩; subst hw)
      refine upon_make 9 (.string ByteArray.empty) 16 Tryz.underlying72 Tryz.infoStr rfl es.length (by omega) (by omega) (by omega) (by unfold maxLen; omega) ?_
      intro w4 hrow4 hb4 hsz4
      have hg3 : g < w3.heap.size := Nat.lt_of_lt_of_le hgs HCH2.out.size
      have hp3 : p < w3.heap.size := HROW2.out.lt
      have hw3 : w.heap.size ≤ w3.heap.size := HCH2.out.size
      obtain ⟨q, hq⟩ : ∃ q, w3.heap.size = q := ⟨_, rfl⟩
      rw [hq] at hrow4 hb4 hsz4 hg3 hp3 hw3 ⊢
      have HROW4 := hid hrow4
      have HB4 := hid hb4
      obtain ⟨S, hS⟩ : ∃ S, ofBytes t = S := ⟨_, rfl⟩
      have hSs : S.size = n := by rw [← hS, ofBytes_size, htl]
      have HSS := hid hS
      rw [hS]
      clear hrow4 hb4 hq hcv hS
      go_wp2
      go_loopw [13, 37] (fun u i wr => ∃ (j : Nat) (l : Int), j ≤ es.length ∧ i = .int .i64 j ∧ u = .int .i64 l ∧ Hid (textEnd 0 (es.take j) = some l) ∧ Row wr q 9 (strs (cutS 0 t (es.take j)) ++ List.replicate (es.length - j) (.string ByteArray.empty)) ∧ Below q w3 wr ∧ Hid (q < wr.heap.size)) (fun _ i _ => es.length - (intOf i).toNat)
      case atStart => exact ⟨0, 0, by omega, rfl, rfl, hid rfl, by simpa [strs, cutS] using HROW4.out, HB4.out, hid (by omega)⟩
      case round =>
        obtain ⟨j, l, hj, rfl, rfl, hu, hr, hb, hz⟩ := hrel
        by_cases hlt : j < es.length
        · have hcl : (strs (cutS 0 t (es.take j))).length = j := by rw [strs_length, cutS_length, List.length_take]; omega
          have hcell : wr.cell? ⟨q, j, none⟩ = some (.string ByteArray.empty) := by
            rw [hr.cell]; exact get_fill _ _ _ _ hcl.symm (by omega)
          have hfr := hr.frozen j
          have hrp : Row wr p 3 (i64s es) := HROW2.out.below hb hp3
          have c1 : wr.cell? ⟨p, j, none⟩ = some (.int .i64 (es.getD j 0)) := by rw [hrp.cell]; exact i64s_get es j hlt
          have hej := hev (es.getD j 0) (by simp [List.getD, List.getElem?_eq_getElem hlt])
          have htk : es.take (j + 1) = es.take j ++ [es.getD j 0] := by
            rw [List.take_succ_eq_append_getElem hlt]; simp [List.getD, List.getElem?_eq_getElem hlt]
          have hal := textEnd_append (es.take (j + 1)) (es.drop (j + 1)) 0
          rw [List.take_append_drop, HTE.out, htk, textEnd_snoc, hu.out] at hal
          have hl0 := textEnd_le _ 0 l hu.out
          obtain ⟨hle, hen, hx1⟩ : l ≤ es.getD j 0 ∧ es.getD j 0 ≤ n ∧ ¬ (es.getD j 0 < l ∨ es.getD j 0 - l > 1024) := by
            simp only [Option.bind_some] at hal
            split at hal
            · cases hal
            · rename_i hx
              simp only [Option.bind_some] at hal
              have := textEnd_le _ _ _ hal.symm
              omega
          have HNX : Hid (textEnd 0 (es.take (j + 1)) = some (es.getD j 0)) := hid (by rw [htk, textEnd_snoc, hu.out]; simp only [Option.bind_some]; rw [if_neg hx1])
          have HCUT : Hid (cutS 0 t (es.take (j + 1)) = cutS 0 t (es.take j) ++ [S.extract l.toNat (es.getD j 0).toNat]) := by
            refine hid ?_
            rw [htk, cutS_snoc t _ 0 _ l hu.out, ← HSS.out, ofBytes_extract t _ _ (by omega)]
            congr 5
            omega
          have HR := hid hr
          have HCL := hid hcl
          clear hr hrp hal htk hx1 hcl
          generalize es.getD j 0 = x at *
          go_wp2
          go_roundw
          case rel =>
            refine ⟨j + 1, x, by omega, by go_num, rfl, HNX, ?_, below_set hb _ _ _ (Nat.le_refl _), ?_⟩
            · have hss := HR.out.set j (.string (S.extract l.toNat x.toNat))
              rw [set_fill _ _ _ _ _ HCL.out.symm (by omega)] at hss
              rw [HCUT.out, strs_append, ← Nat.sub_sub es.length j 1]
              exact hss
            · refine hid ?_; have := hz.out; simpa [World.setCell] using this
          case measure => simp [intOf]; omega
        · obtain rfl : j = es.length := by omega
          have hat2 : RdrAt w0 wr g (tkL n xl) false := by
            obtain ⟨h1, h2, v, hr1, hr2⟩ := HAT2.out
            exact ⟨h1, h2.trans (hb.mono (by omega)), v, hr1.below hb hg3, hr2⟩
          have HATF := hid hat2
          have HRR := hid hr
          clear hat2 hr hte ht1 hev hSs HSS htl hsz0 hsz1 HTE hu hj
          go_wp2
          go_ret2
          have h1 := HRR.out
          rw [Nat.sub_self, List.replicate_zero, List.append_nil, List.take_length] at h1
          refine ⟨_, rfl, ?_, HATF.out, HCH2.out.then_below hb hw3⟩
          have h2 := h1.owns (B := B) (n := es.length) (by have := HB.out; omega) (by rw [strs_length, cutS_length]) (by unfold maxLen; omega)
          simpa [cutS_length] using h2
/-- numbers as a list of ints in memory -/
def nIs (xs : List Nat) : List Value := i64s (nI xs)
/-- the words that are left -/
def restW (xs : List Nat) : List Nat := numL 8 (tk (8 * (xs.length / 8)) xs)
theorem restW_len (xs : List Nat) : (restW xs).length = xs.length / 8 := by
  unfold restW; rw [numL_length]; unfold tk; rw [if_pos (by omega), List.length_take]; omega

end Go.Proofs.YtdlkdiaobbakiaaGreatDoor
