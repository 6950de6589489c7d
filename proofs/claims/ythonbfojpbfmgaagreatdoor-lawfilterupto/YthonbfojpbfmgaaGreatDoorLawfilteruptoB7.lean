/- The plain answer: lists of values at a place. -/
import Derived.Test.YthonbfojpbfmgaaGreatDoorLawfilteruptoB6
import Derived.Deep.RegionHeld3
import Derived.Deep.CutRange
set_option linter.unusedVariables false
set_option linter.unusedSimpArgs false
set_option linter.unnecessarySimpa false
set_option maxRecDepth 100000
namespace Go.Proofs.YthonbfojpbfmgaaGreatDoor
open Go.RowKit

theorem Rd.short {w : World} {A : Option Addr} {c L : Nat} {xs : List Nat} (h : Rd w (.slice A L c) xs.length 1 (u8s xs)) (n : Nat) (hn : n ≤ xs.length) : Rd w (.slice A n c) (xs.take n).length 1 (u8s (xs.take n)) := by
  have hl : (xs.take n).length = n := by rw [List.length_take]; omega
  rw [hl]
  refine ⟨by rw [u8s_length, hl]; omega, ?_⟩
  rcases h.2 with ⟨⟨A', e⟩, h0⟩ | ⟨b, o, cap, e, h1, h2, hs⟩
  · simp only [Value.slice.injEq] at e
    obtain ⟨rfl, rfl, rfl⟩ := e
    obtain rfl : n = 0 := by omega
    exact .inl ⟨⟨A, rfl⟩, rfl⟩
  · cases e
    refine .inr ⟨b, o, c, rfl, by omega, h2, fun i v hv => hs i v ?_⟩
    rw [← take_u8s, List.getElem?_take] at hv
    split at hv
    · exact hv
    · cases hv
theorem numL_tk_len (size c : Nat) (xs : List Nat) (hl : xs.length ≤ 16777216) (h0 : 1 ≤ size) : (numL size (tk c xs)).length ≤ 16777216 := by
  rw [numL_length]; unfold tk; split
  · rw [List.length_take]; exact Nat.le_trans (Nat.div_le_self _ _) (Nat.le_trans (Nat.min_le_right _ _) hl)
  · simp
set_option maxHeartbeats 4000000 in
theorem listAtI_any (v : Value) (xs : List Nat) (p m : Nat) (w : World) (hx : Rd w v xs.length 1 (u8s xs)) (hb : ∀ x ∈ xs, x < 256) (hl : xs.length ≤ 16777216) (hp : p ≤ 1099511627776) (hm : m ≤ 4294967296) :
    Calls Tryz.prog 115 #[v, .int .i64 p, .int .i64 1, .int .i64 m] w fun e w' =>
      ∃ u, e = .returned (.tuple #[u, .int .i64 (if numsOk 8 m p xs.length = true then p + 8 * m else 0 : Nat), .bool (numsOk 8 m p xs.length)]) ∧
        w'.ownsRow w.heap.size 42 3 u ((numL 8 (tk (8 * m) (xs.drop p))).map sgn64).length (cellsI ((numL 8 (tk (8 * m) (xs.drop p))).map sgn64)) ∧ Below w.heap.size w w' := by
  have HN := hid (numbersAt_any v xs p 8 m w hx hb hl (.inr rfl) hp hm)
  have hyl : (numL 8 (tk (8 * m) (xs.drop p))).length ≤ 16777216 := numL_tk_len _ _ _ (by rw [List.length_drop]; omega) (by omega)
  have hyv : ∀ x ∈ numL 8 (tk (8 * m) (xs.drop p)), x < 18446744073709551616 := numL_lt (tk_lt (fun x h => hb x (List.mem_of_mem_drop h))) (by omega)
  obtain ⟨A, ca, rfl, _, _, _⟩ := hx.form
  generalize numL 8 (tk (8 * m) (xs.drop p)) = ys at *
  generalize (if numsOk 8 m p xs.length = true then p + 8 * m else 0) = nx at *
  generalize numsOk 8 m p xs.length = ok at *
  have HSNOC := hid (fun j h => take_map_snoc sgn64 0 ys j h)
  obtain ⟨B, hB⟩ : ∃ B, w.heap.size = B := ⟨_, rfl⟩
  have HBE := hid hB
  rw [hB]
  clear hx hb hB
  go_enter Tryz.func115, Tryz.ntmps115
  go_wp2_with fail
  refine HN.out.mono ?_
  rintro e w1 ⟨u, rfl, ho, hb1⟩
  have hf := owns_rd ho
  obtain ⟨A1, c1, rfl, _, _, hA1⟩ := hf.form
  have HRD := hid hf
  have HB1 := hid hb1
  clear ho hf hb1 HN hA1
  go_wp2
  go_loopw [11, 36] (fun u i wr => ∃ j : Nat, j ≤ ys.length ∧ i = .int .i64 j ∧ wr.ownsRow w1.heap.size 42 3 u j (cellsI ((ys.take j).map sgn64)) ∧ Below w1.heap.size w1 wr) (fun _ i _ => ys.length - (intOf i).toNat)
  case atStart => exact ⟨0, by omega, rfl, by simpa [cellsI] using World.ownsRow_nil _ _ _ _, brefl w1⟩
  case round =>
    obtain ⟨j, hj, rfl, hown, hbw⟩ := hrel
    have HOWN := hid hown
    obtain ⟨A2, c2, rfl⟩ := owns3_form hown
    clear hown
    by_cases hlt : j < ys.length
    · obtain ⟨A3, c3, he, _, _, hA3⟩ := (HRD.out.mono hbw).form
      cases he
      obtain ⟨b, o, rfl, hs⟩ := hA3 (by omega)
      have c1' := hs.word j hlt
      have hx64 := hyv (ys.getD j 0) (by simp [List.getD, List.getElem?_eq_getElem hlt])
      have HST := hid (HSNOC.out j hlt)
      have hBw : w1.heap.size ≤ wr.heap.size := hbw.size
      clear hs hA3
      generalize ys.getD j 0 = x at *
      go_wp2_with (at_builtin; refine wpList_append3 rfl (.tmp 40) (.tmp 44) rfl 42 [.bool false, .int .i64 0, .string ByteArray.empty] 32 Tryz.underlying23 Tryz.infoCell rfl rfl rfl HOWN.out hBw (by intro u hu; simp at hu; rcases hu with rfl | rfl | rfl <;> rfl) (by unfold maxLen; omega) (by omega) ?_; intro v' w' ho hb3)
      go_roundw
      case rel =>
        refine ⟨j + 1, by omega, by go_num, ?_, hbw.trans hb3⟩
        rw [HST.out, cellsI_snoc]
        exact ho
      case measure => simp [intOf]; omega
    · obtain rfl : j = ys.length := by omega
      go_wp2
      go_ret3
      refine ⟨_, rfl, ?_, by rw [← HBE.out]; exact bthen HB1.out hbw⟩
      have := HOWN.out
      rw [List.take_length] at this
      rw [List.length_map]
      exact owns3_mono this (by have := HBE.out; have := HB1.out.size; omega)

/-- is there a list of m strings at place p? -/
def strsOk (m p : Nat) (xs : List Nat) : Bool := numsOk 4 m p xs.length && match textEnd 0 (nI (numL 4 (tk (4 * m) (xs.drop p)))) with
  | none => false
  | some sz => decide (sz ≤ ((xs.length - (p + 4 * m) : Nat) : Int))
def strsV (m p : Nat) (xs : List Nat) : List ByteArray := if strsOk m p xs = true then cutS 0 (xs.drop (p + 4 * m)) (nI (numL 4 (tk (4 * m) (xs.drop p)))) else []
def strsNx (m p : Nat) (xs : List Nat) : Nat := if strsOk m p xs = true then p + 4 * m + (tsz (nI (numL 4 (tk (4 * m) (xs.drop p))))).toNat else 0

set_option maxHeartbeats 8000000 in
theorem listAtS_any (v : Value) (xs : List Nat) (p m : Nat) (w : World) (hx : Rd w v xs.length 1 (u8s xs)) (hb : ∀ x ∈ xs, x < 256) (hl : xs.length ≤ 16777216) (hp : p ≤ 1099511627776) (hm : m ≤ 4294967296) :
    Calls Tryz.prog 115 #[v, .int .i64 p, .int .i64 2, .int .i64 m] w fun e w' =>
      ∃ u, e = .returned (.tuple #[u, .int .i64 (strsNx m p xs : Nat), .bool (strsOk m p xs)]) ∧
        w'.ownsRow w.heap.size 42 3 u (strsV m p xs).length (cellsS (strsV m p xs)) ∧ Below w.heap.size w w' := by
  have HN := hid (numbersAt_any v xs p 4 m w hx hb hl (.inl rfl) hp hm)
  have hyl : (numL 4 (tk (4 * m) (xs.drop p))).length ≤ 16777216 := numL_tk_len _ _ _ (by rw [List.length_drop]; omega) (by omega)
  have hyv : ∀ x ∈ numL 4 (tk (4 * m) (xs.drop p)), x < 4294967296 := numL4_lt (tk_lt (fun x h => hb x (List.mem_of_mem_drop h)))
  have HX := hid hx
  obtain ⟨A, ca, rfl, hlc, hcm, hA⟩ := hx.form
  cases hok : numsOk 4 m p xs.length with
  | false =>
    have e1 : strsOk m p xs = false := by unfold strsOk; rw [hok, Bool.false_and]
    have e2 : strsV m p xs = [] := by unfold strsV; rw [e1]; simp
    have e3 : strsNx m p xs = 0 := by unfold strsNx; rw [e1]; simp
    have e4 : numL 4 (tk (4 * m) (xs.drop p)) = [] := by
      unfold numsOk at hok
      have hok' : ¬ (p ≤ xs.length ∧ 4 * m ≤ xs.length - p) := by simpa using hok
      unfold tk numL
      by_cases h2 : p ≤ xs.length
      · rw [if_neg (by rw [List.length_drop]; exact fun h => hok' ⟨h2, h⟩)]; simp
      · rw [List.drop_of_length_le (by omega)]; split <;> simp
    rw [e1, e2, e3]
    rw [hok, e4, if_neg (by simp)] at HN
    clear hx hb hA e1 e2 e3 e4 hyl hyv HX hok
    go_enter Tryz.func115, Tryz.ntmps115
    go_wp2_with fail
    refine HN.out.mono ?_
    rintro e w1 ⟨u, rfl, ho, hb1⟩
    obtain ⟨A1, c1, rfl, _, _, _⟩ := owns_form ho
    have HB1 := hid hb1
    clear ho hb1 HN
    go_wp2
    go_loopw [11, 20, 60] (fun a l i wr => i = .int .i64 0 ∧ a = .slice none 0 0 ∧ l = .int .i64 0 ∧ wr = w1) (fun _ _ i _ => 0)
    case atStart => exact ⟨rfl, rfl, rfl, rfl⟩
    case round =>
      obtain ⟨rfl, rfl, rfl, rfl⟩ := hrel
      go_wp2
      go_ret3
      exact ⟨_, rfl, World.ownsRow_nil _ _ _ _, HB1.out⟩
  | true =>
    have hok' : p ≤ xs.length ∧ 4 * m ≤ xs.length - p := by unfold numsOk at hok; exact of_decide_eq_true hok
    obtain ⟨tx, htx⟩ : ∃ tx, p + 4 * m = tx := ⟨_, rfl⟩
    have htl : tx ≤ xs.length := by omega
    rw [hok, if_pos rfl, htx] at HN
    have hm1 : m ≤ 16777216 := by omega
    obtain ⟨es, hes⟩ : ∃ es, nI (numL 4 (tk (4 * m) (xs.drop p))) = es := ⟨_, rfl⟩
    obtain ⟨S, hS⟩ : ∃ S, strsV m p xs = S := ⟨_, rfl⟩
    obtain ⟨nx, hnx⟩ : ∃ nx, strsNx m p xs = nx := ⟨_, rfl⟩
    obtain ⟨ok, hokk⟩ : ∃ ok, strsOk m p xs = ok := ⟨_, rfl⟩
    have HS := hid hS
    have HNX := hid hnx
    have HOK := hid hokk
    unfold strsV at HS
    unfold strsNx at HNX
    rw [hokk, htx, hes] at HS
    rw [hokk, htx, hes] at HNX
    unfold strsOk at HOK
    rw [hok, Bool.true_and, htx, hes] at HOK
    rw [hS, hnx, hokk]
    generalize hys : numL 4 (tk (4 * m) (xs.drop p)) = ys at *
    have hel : es.length = ys.length := by rw [← hes, nI_length]
    have heg : ∀ j, j < ys.length → es.getD j 0 = ((ys.getD j 0 : Nat) : Int) := by
      intro j hj
      rw [← hes]
      simp [nI, List.getD, List.getElem?_map, List.getElem?_eq_getElem hj]
    have HEG := hid heg
    clear heg hes hS hnx hokk hys hok hok' htx hx hA
    have HYV := hid hyv
    obtain ⟨B, hB⟩ : ∃ B, w.heap.size = B := ⟨_, rfl⟩
    have HBE := hid hB
    rw [hB]
    clear hB hyv
    go_enter Tryz.func115, Tryz.ntmps115
    go_wp2_with fail
    refine HN.out.mono ?_
    rintro e w1 ⟨u, rfl, ho, hb1⟩
    have hf := owns_rd ho
    obtain ⟨A1, c1, rfl, _, _, hA1⟩ := hf.form
    have HRD := hid hf
    have HB1 := hid hb1
    clear ho hf hb1 HN hA1
    go_wp2
    go_loopw [11, 20, 60] (fun a u i wr => ∃ (j : Nat) (l : Nat), j ≤ ys.length ∧ i = .int .i64 j ∧ u = .int .i64 l ∧ Hid (textEnd 0 (es.take j) = some (l : Int)) ∧ l ≤ xs.length - tx ∧ wr.ownsRow w1.heap.size 42 3 a j (cellsS (cutS 0 (xs.drop tx) (es.take j))) ∧ Below w1.heap.size w1 wr) (fun _ _ i _ => ys.length - (intOf i).toNat)
    case atStart => exact ⟨0, 0, by omega, rfl, rfl, hid rfl, by omega, by simpa [cellsS, cutS] using World.ownsRow_nil _ _ _ _, brefl w1⟩
    case round =>
      obtain ⟨j, l, hj, rfl, rfl, hu, hlx, hown, hbw⟩ := hrel
      have HOWN := hid hown
      obtain ⟨A2, c2, rfl⟩ := owns3_form hown
      clear hown
      by_cases hlt : j < ys.length
      · obtain ⟨A3, c3, he, _, _, hA3⟩ := (HRD.out.mono hbw).form
        cases he
        obtain ⟨b, o, rfl, hs⟩ := hA3 (by omega)
        have c1' := hs.word j hlt
        have hx32 := HYV.out (ys.getD j 0) (by simp [List.getD, List.getElem?_eq_getElem hlt])
        have htk : es.take (j + 1) = es.take j ++ [((ys.getD j 0 : Nat) : Int)] := by
          rw [← HEG.out j hlt, List.take_succ_eq_append_getElem (by omega)]; simp [List.getD, List.getElem?_eq_getElem (show j < es.length by omega)]
        have hsn : textEnd 0 (es.take (j + 1)) = if ((ys.getD j 0 : Nat) : Int) < (l : Int) ∨ ((ys.getD j 0 : Nat) : Int) - (l : Int) > 1024 then none else some ((ys.getD j 0 : Nat) : Int) := by
          rw [htk, textEnd_snoc, hu.out]; rfl
        have hcut := cutS_snoc (xs.drop tx) (es.take j) 0 ((ys.getD j 0 : Nat) : Int) (l : Int) hu.out
        rw [← htk] at hcut
        have hall := textEnd_append (es.take (j + 1)) (es.drop (j + 1)) 0
        rw [List.take_append_drop] at hall
        have HBAD : Hid (textEnd 0 (es.take (j + 1)) = none ∨ xs.length - tx < ys.getD j 0 → ok = false) := by
          refine hid fun h => ?_
          have h2 := HOK.out
          cases hte : textEnd 0 es with
          | none => rw [hte] at h2; exact h2.symm
          | some sz =>
            rw [hte] at h2 hall
            rcases h with h | h
            · rw [h] at hall; cases hall
            · by_cases hn : textEnd 0 (es.take (j + 1)) = none
              · rw [hn] at hall; cases hall
              · rw [hsn] at hn hall
                split at hn
                · exact absurd rfl hn
                · rename_i hc
                  rw [if_neg hc] at hall
                  have := textEnd_le _ _ _ hall.symm
                  rw [← h2]
                  exact decide_eq_false (by omega)
        have HSN := hid hsn
        have HCUT := hid hcut
        have hBw : w1.heap.size ≤ wr.heap.size := hbw.size
        have HXW := hid (HX.out.mono (bthen HB1.out hbw))
        clear hs hA3 hsn hcut hall htk
        generalize ys.getD j 0 = x at *
        by_cases hbad : x < l ∨ l + 1024 < x ∨ xs.length - tx < x
        · have hof : ok = false := HBAD.out (by
            rcases hbad with h | h | h
            · exact .inl (by rw [HSN.out, if_pos (.inl (by omega))])
            · exact .inl (by rw [HSN.out, if_pos (.inr (by omega))])
            · exact .inr h)
          subst hof
          have hS0 := HS.out
          have hN0 := HNX.out
          rw [if_neg (by simp)] at hS0 hN0
          subst hS0
          subst hN0
          by_cases h1 : x < l
          · have h1' : (x : Int) < (l : Int) := by omega
            go_wp2
            go_ret3
            exact ⟨_, rfl, World.ownsRow_nil _ _ _ _, by rw [← HBE.out]; exact bthen HB1.out hbw⟩
          · have h1' : ¬ (x : Int) < (l : Int) := by omega
            by_cases h2 : l + 1024 < x
            · have h2' : (x : Int) > (l : Int) + 1024 := by omega
              go_wp2
              go_ret3
              exact ⟨_, rfl, World.ownsRow_nil _ _ _ _, by rw [← HBE.out]; exact bthen HB1.out hbw⟩
            · have h2' : ¬ (x : Int) > (l : Int) + 1024 := by omega
              have h3' : (x : Int) > (xs.length : Int) - (tx : Int) := by omega
              go_wp2
              go_ret3
              exact ⟨_, rfl, World.ownsRow_nil _ _ _ _, by rw [← HBE.out]; exact bthen HB1.out hbw⟩
        · have h1' : ¬ (x : Int) < (l : Int) := by omega
          have h2' : ¬ (x : Int) > (l : Int) + 1024 := by omega
          have h3' : ¬ (x : Int) > (xs.length : Int) - (tx : Int) := by omega
          obtain ⟨q, hq⟩ : ∃ q, tx + l = q := ⟨_, rfl⟩
          have hq1 : (tx : Int) + (l : Int) = (q : Int) := by omega
          obtain ⟨q2, hq2⟩ : ∃ q2, tx + x = q2 := ⟨_, rfl⟩
          have hq2' : (tx : Int) + (x : Int) = (q2 : Int) := by omega
          have hqq : q ≤ q2 := by omega
          have hqx : q2 ≤ xs.length := by omega
          have HCUT2 : Hid (cutS 0 (xs.drop tx) (es.take (j + 1)) = cutS 0 (xs.drop tx) (es.take j) ++ [ofBytes ((xs.drop q).take (q2 - q))]) := hid (by
            rw [HCUT.out, List.drop_drop]
            congr 3
            rw [show ((x : Int) - (l : Int)).toNat = q2 - q by omega, show tx + ((l : Nat) : Int).toNat = q by rw [Int.toNat_natCast]; exact hq])
          have HCQ := hid hcm
          clear HCUT HBAD hq hq2 hcm
          by_cases hcq : ca = q
          · obtain rfl : q2 = q := by omega
            obtain rfl : q2 = ca := by omega
            have hcv := run_str (xs := []) (show Rd wr (.slice A 0 0) ([] : List Nat).length 1 (u8s []) from rd_nil wr A)
            have hof : ofBytes ((xs.drop q2).take (q2 - q2)) = ofBytes [] := by simp
            rw [hof] at HCUT2
            generalize ofBytes [] = SS at *
            go_wp2_with (at_builtin; refine wpList_append3 rfl (.tmp 83) (.tmp 94) rfl 42 [.bool false, .int .i64 0, .string ByteArray.empty] 32 Tryz.underlying23 Tryz.infoCell rfl rfl rfl HOWN.out hBw (by intro u hu; simp at hu; rcases hu with rfl | rfl | rfl <;> rfl) (by unfold maxLen; omega) (by omega) ?_; intro v' w' ho hb3)
            go_roundw
            case rel =>
              refine ⟨j + 1, x, by omega, by go_num, rfl, hid (by rw [HSN.out, if_neg (by omega)]), by omega, ?_, hbw.trans hb3⟩
              rw [HCUT2.out, cellsS_snoc]
              exact ho
            case measure => simp [intOf]; omega
          · have hcv := run_str ((HXW.out.rear q (by omega) hcq).short (q2 - q) (by rw [List.length_drop]; omega))
            generalize ofBytes ((xs.drop q).take (q2 - q)) = SS at *
            go_wp2_with (at_builtin; refine wpList_append3 rfl (.tmp 83) (.tmp 94) rfl 42 [.bool false, .int .i64 0, .string ByteArray.empty] 32 Tryz.underlying23 Tryz.infoCell rfl rfl rfl HOWN.out hBw (by intro u hu; simp at hu; rcases hu with rfl | rfl | rfl <;> rfl) (by unfold maxLen; omega) (by omega) ?_; intro v' w' ho hb3)
            go_roundw
            case rel =>
              refine ⟨j + 1, x, by omega, by go_num, rfl, hid (by rw [HSN.out, if_neg (by omega)]), by omega, ?_, hbw.trans hb3⟩
              rw [HCUT2.out, cellsS_snoc]
              exact ho
            case measure => simp [intOf]; omega
      · obtain rfl : j = ys.length := by omega
        have htake : es.take ys.length = es := by rw [← hel, List.take_length]
        have hu2 := hu.out
        rw [htake] at hu2
        have hof : ok = true := by
          have h2 := HOK.out
          rw [hu2] at h2
          rw [← h2]
          exact decide_eq_true (by omega)
        subst hof
        have hS0 := HS.out
        have hN0 := HNX.out
        rw [if_pos rfl] at hS0 hN0
        have hts : tsz es = (l : Int) := by rw [tsz, hu2]; rfl
        rw [hts, Int.toNat_natCast] at hN0
        have hown2 := HOWN.out
        rw [htake, hS0] at hown2
        have hSl : S.length = ys.length := by rw [← hS0, cutS_length, hel]
        have HO2 := hid hown2
        clear hown2 hu2 hS0 HOWN HOK HS HNX
        subst hN0
        go_wp2
        go_ret3
        refine ⟨_, rfl, ?_, by rw [← HBE.out]; exact bthen HB1.out hbw⟩
        rw [hSl]
        exact owns3_mono HO2.out (by have := HBE.out; have := HB1.out.size; omega)
end Go.Proofs.YthonbfojpbfmgaaGreatDoor

/- The plain answer: values as pairs, their order, lists of them whatever the kind. -/
set_option linter.unusedVariables false
set_option linter.unusedSimpArgs false
set_option linter.unnecessarySimpa false
set_option maxRecDepth 100000
namespace Go.Proofs.YthonbfojpbfmgaaGreatDoor
open Go.RowKit

/-- the cells of values, each by its integer and its string -/
def cellsP (vs : List (Int × ByteArray)) : List Value := vs.flatMap fun v => [.bool false, .int .i64 v.1, .string v.2]
def dfP : Int × ByteArray := (0, default)
theorem cellsP_snoc (vs : List (Int × ByteArray)) (v : Int × ByteArray) : cellsP (vs ++ [v]) = cellsP vs ++ [.bool false, .int .i64 v.1, .string v.2] := by simp [cellsP]
theorem cellsP_cons (v : Int × ByteArray) (vs : List (Int × ByteArray)) : cellsP (v :: vs) = [.bool false, .int .i64 v.1, .string v.2] ++ cellsP vs := by simp [cellsP]
theorem cellsP_get (vs : List (Int × ByteArray)) : ∀ k, k < vs.length → (cellsP vs)[k * 3]? = some (.bool false) ∧ (cellsP vs)[k * 3 + 1]? = some (.int .i64 (vs.getD k dfP).1) ∧ (cellsP vs)[k * 3 + 2]? = some (.string (vs.getD k dfP).2) := by
  induction vs with
  | nil => intro k hk; simp at hk
  | cons v r ih =>
    intro k hk
    rw [cellsP_cons]
    cases k with
    | zero => simp
    | succ k =>
      obtain ⟨h1, h2, h3⟩ := ih k (by simpa using hk)
      rw [List.getElem?_append_right (by simp; omega), List.getElem?_append_right (by simp; omega), List.getElem?_append_right (by simp; omega)]
      simp only [List.length_cons, List.length_nil, List.getD_cons_succ]
      rw [show (k + 1) * 3 - (0 + 1 + 1 + 1) = k * 3 by omega, show (k + 1) * 3 + 1 - (0 + 1 + 1 + 1) = k * 3 + 1 by omega, show (k + 1) * 3 + 2 - (0 + 1 + 1 + 1) = k * 3 + 2 by omega]
      exact ⟨h1, h2, h3⟩
def pI (x : Int) : Int × ByteArray := (x, ByteArray.empty)
def pS (x : ByteArray) : Int × ByteArray := (0, x)
theorem cellsI_P (xs : List Int) : cellsI xs = cellsP (xs.map pI) := by
  induction xs with
  | nil => rfl
  | cons x r ih => rw [List.map_cons, cellsP_cons, ← ih]; rfl
theorem cellsS_P (xs : List ByteArray) : cellsS xs = cellsP (xs.map pS) := by
  induction xs with
  | nil => rfl
  | cons x r ih => rw [List.map_cons, cellsP_cons, ← ih]; rfl

def ordP (x y : Int × ByteArray) : Int := if x.1 < y.1 then -1 else if y.1 < x.1 then 1 else ordS x.2 y.2
set_option maxHeartbeats 1000000 in
theorem order_any (x y : Int × ByteArray) (w : World) : Calls Tryz.prog 64 #[.agg #[.bool false, .int .i64 x.1, .string x.2], .agg #[.bool false, .int .i64 y.1, .string y.2]] w fun e w' => e = .returned (.int .i64 (ordP x y)) ∧ Below w.heap.size w w' := by
  obtain ⟨a, s⟩ := x
  obtain ⟨b, t⟩ := y
  simp only
  have hord : ordP (a, s) (b, t) = if a < b then -1 else if b < a then 1 else ordS s t := rfl
  rw [hord]
  clear hord
  obtain ⟨lt, hlt⟩ : ∃ lt, Op.bytesLess s.toList t.toList = lt := ⟨_, rfl⟩
  obtain ⟨eq, heq⟩ : ∃ eq, (s.toList == t.toList) = eq := ⟨_, rfl⟩
  have hord : ordS s t = if lt = true then -1 else if (!(lt || eq)) = true then 1 else 0 := by unfold ordS ltS eqS; rw [hlt, heq]
  rw [hord]
  clear hord
  go_enter Tryz.func64, Tryz.ntmps64
  by_cases h1 : a < b
  · rw [if_pos h1]
    go_wp2
    go_ret
    exact ⟨rfl, (((brefl w).alloc (Nat.le_refl _) _).alloc (by simp) _)⟩
  · rw [if_neg h1]
    by_cases h2 : b < a
    · rw [if_pos h2]
      have h2' : a > b := h2
      go_wp2
      go_ret
      exact ⟨rfl, (((brefl w).alloc (Nat.le_refl _) _).alloc (by simp) _)⟩
    · rw [if_neg h2]
      have h2' : ¬ a > b := h2
      cases lt
      · cases eq
        · go_wp2
          go_ret
          exact ⟨rfl, (((brefl w).alloc (Nat.le_refl _) _).alloc (by simp) _)⟩
        · go_wp2
          go_ret
          exact ⟨rfl, (((brefl w).alloc (Nat.le_refl _) _).alloc (by simp) _)⟩
      · go_wp2
        go_ret
        exact ⟨rfl, (((brefl w).alloc (Nat.le_refl _) _).alloc (by simp) _)⟩

/-- the list of m values of a kind at place p -/
def listOk (kd : Nat) (m p : Nat) (xs : List Nat) : Bool := if kd = 1 then numsOk 8 m p xs.length else strsOk m p xs
def listNx (kd : Nat) (m p : Nat) (xs : List Nat) : Nat := if kd = 1 then (if numsOk 8 m p xs.length = true then p + 8 * m else 0) else strsNx m p xs
def listP (kd : Nat) (m p : Nat) (xs : List Nat) : List (Int × ByteArray) := if kd = 1 then ((numL 8 (tk (8 * m) (xs.drop p))).map sgn64).map pI else (strsV m p xs).map pS
theorem listAt_any (kd : Nat) (hkd : kd = 1 ∨ kd = 2) (v : Value) (xs : List Nat) (p m : Nat) (w : World) (hx : Rd w v xs.length 1 (u8s xs)) (hb : ∀ x ∈ xs, x < 256) (hl : xs.length ≤ 16777216) (hp : p ≤ 1099511627776) (hm : m ≤ 4294967296) :
    Calls Tryz.prog 115 #[v, .int .i64 p, .int .i64 kd, .int .i64 m] w fun e w' =>
      ∃ u, e = .returned (.tuple #[u, .int .i64 (listNx kd m p xs : Nat), .bool (listOk kd m p xs)]) ∧ w'.ownsRow w.heap.size 42 3 u (listP kd m p xs).length (cellsP (listP kd m p xs)) ∧ Below w.heap.size w w' := by
  rcases hkd with rfl | rfl
  · refine (listAtI_any v xs p m w hx hb hl hp hm).mono ?_
    rintro e w' ⟨u, h1, h2, h3⟩
    refine ⟨u, ?_, ?_, h3⟩
    · unfold listNx listOk; rw [if_pos rfl, if_pos rfl]; exact h1
    · unfold listP; rw [if_pos rfl, List.length_map, ← cellsI_P]; exact h2
  · refine (listAtS_any v xs p m w hx hb hl hp hm).mono ?_
    rintro e w' ⟨u, h1, h2, h3⟩
    refine ⟨u, ?_, ?_, h3⟩
    · unfold listNx listOk; rw [if_neg (by decide), if_neg (by decide)]; exact h1
    · unfold listP; rw [if_neg (by decide), List.length_map, ← cellsS_P]; exact h2
end Go.Proofs.YthonbfojpbfmgaaGreatDoor

/- The plain answer: dictionaries. -/
set_option linter.unusedVariables false
set_option linter.unusedSimpArgs false
set_option linter.unnecessarySimpa false
set_option maxRecDepth 100000
namespace Go.Proofs.YthonbfojpbfmgaaGreatDoor
open Go.RowKit

abbrev PV := Int × ByteArray
/-- what a reading of a payload hands back: a list, and is it one -/
def PAns (w w' : World) (e : Ending) (r : Bool × List PV) : Prop :=
  ∃ u, e = .returned (.tuple #[u, .bool r.1]) ∧ (∃ A n c, u = Value.slice A n c) ∧ (r.1 = true → w'.ownsRow w.heap.size 42 3 u r.2.length (cellsP r.2)) ∧ Below w.heap.size w w'
def geP (a b : PV) : Bool := decide (0 ≤ ordP a b)
def eqP (a b : PV) : Bool := decide (ordP a b = 0)
def dN (p : Nat) (xs : List Nat) : Nat := if numOk 4 p xs.length = true then L.wordOf 8 ((xs.drop p).take 4) else 0
def dictR (kd wd k p : Nat) (xs : List Nat) : Bool × List PV :=
  if numOk 4 p xs.length = false ∨ 256 < dN p xs ∨ wd ≠ needN (dN p xs) then (false, [])
  else if listOk kd (dN p xs) (p + 4) xs = false ∨ noPair geP (listP kd (dN p xs) (p + 4) xs) = false then (false, [])
  else if ((lanesV wd k (listNx kd (dN p xs) (p + 4) xs) xs).all fun c => decide (c < dN p xs)) = false then (false, [])
  else (lanesOk wd k (listNx kd (dN p xs) (p + 4) xs) xs, (lanesV wd k (listNx kd (dN p xs) (p + 4) xs) xs).map fun c => (listP kd (dN p xs) (p + 4) xs).getD c dfP)
theorem pans_no {w w' : World} {r : Bool × List PV} (h : r = (false, [])) (hb : Below w.heap.size w w') : PAns w w' (.returned (.tuple #[.slice none 0 0, .bool false])) r := by
  subst h
  exact ⟨_, rfl, ⟨_, _, _, rfl⟩, (fun h => by simp at h), hb⟩
theorem listP_len (kd m p : Nat) (xs : List Nat) (h : listOk kd m p xs = true) (hkd : kd = 1 ∨ kd = 2) : (listP kd m p xs).length = m := by
  rcases hkd with rfl | rfl
  · unfold listOk at h; rw [if_pos rfl] at h
    unfold numsOk at h; simp only [decide_eq_true_eq] at h
    unfold listP; rw [if_pos rfl, List.length_map, List.length_map, numL_length]
    unfold tk; rw [if_pos (by rw [List.length_drop]; exact h.2), List.length_take, List.length_drop, Nat.min_eq_left (by omega)]
    omega
  · unfold listOk at h; rw [if_neg (by decide)] at h
    unfold listP; rw [if_neg (by decide), List.length_map]
    have h2 := h
    unfold strsOk at h2; simp only [Bool.and_eq_true] at h2
    unfold numsOk at h2; simp only [decide_eq_true_eq] at h2
    unfold strsV; rw [if_pos h, cutS_length, nI_length, numL_length]
    unfold tk; rw [if_pos (by rw [List.length_drop]; exact h2.1.2), List.length_take, List.length_drop, Nat.min_eq_left (by omega)]
    omega
theorem listNx_le (kd m p : Nat) (xs : List Nat) (hl : xs.length ≤ 16777216) : listNx kd m p xs ≤ 16777216 := by
  unfold listNx
  split
  · split
    · rename_i h
      unfold numsOk at h; simp only [decide_eq_true_eq] at h
      omega
    · omega
  · unfold strsNx
    split
    · rename_i h
      unfold strsOk at h; simp only [Bool.and_eq_true] at h
      obtain ⟨h1, h2⟩ := h
      unfold numsOk at h1; simp only [decide_eq_true_eq] at h1
      unfold tsz
      split at h2
      · cases h2
      · rename_i sz hsz
        simp only [decide_eq_true_eq] at h2
        rw [hsz]
        simp only [Option.getD_some]
        omega
    · omega
theorem Rd.atP {w : World} {D : Option Addr} {n m cd : Nat} {vs : List PV} (h : Rd w (.slice D n cd) m 3 (cellsP vs)) (h0 : 0 < m) : ∃ b o, D = some ⟨b, o, none⟩ ∧
    ∀ k, k < vs.length → w.cell? ⟨b, o + k * 3, none⟩ = some (.bool false) ∧ w.cell? ⟨b, o + k * 3 + 1, none⟩ = some (.int .i64 (vs.getD k dfP).1) ∧ w.cell? ⟨b, o + k * 3 + 2, none⟩ = some (.string (vs.getD k dfP).2) := by
  rcases h.2 with ⟨_, rfl⟩ | ⟨b, o, cap', he, _, _, hs⟩
  · exact absurd h0 (Nat.lt_irrefl 0)
  · injection he with e1 e2 e3
    refine ⟨b, o, e1, fun k hk => ?_⟩
    obtain ⟨g0, g1, g2⟩ := cellsP_get vs k hk
    exact ⟨hs _ _ g0, hs _ _ g1, hs _ _ g2⟩
theorem Rd.atW {w : World} {D : Option Addr} {n m cd : Nat} {xs : List Nat} (h : Rd w (.slice D n cd) m 1 (u64s xs)) (h0 : 0 < m) : ∃ b o, D = some ⟨b, o, none⟩ ∧
    ∀ k, k < xs.length → w.cell? ⟨b, o + k, none⟩ = some (.int .u64 ((xs.getD k 0 : Nat) : Int)) := by
  rcases h.2 with ⟨_, rfl⟩ | ⟨b, o, cap', he, _, _, hs⟩
  · exact absurd h0 (Nat.lt_irrefl 0)
  · injection he with e1 e2 e3
    exact ⟨b, o, e1, fun k hk => hs.word k hk⟩
set_option maxHeartbeats 8000000 in
theorem dictAt_any (kd : Nat) (hkd : kd = 1 ∨ kd = 2) (v : Value) (xs : List Nat) (p wd k : Nat) (w : World) (hx : Rd w v xs.length 1 (u8s xs)) (hb : ∀ x ∈ xs, x < 256) (hl : xs.length ≤ 16777216) (hp : p ≤ 16777216) (hk : k ≤ 65536) :
    Calls Tryz.prog 112 #[v, .int .i64 p, .int .i64 kd, .int .i64 wd, .int .i64 k] w fun e w' => PAns w w' e (dictR kd wd k p xs) := by
  have HNA := hid (numberAt_any v xs p 4 w hx hb hl (by omega) (by omega))
  have HND := hid (fun (d : Nat) (hd : d ≤ 256) (w2 : World) => need_any d w2 hd)
  have HLA := hid (fun (d : Nat) (hd : d ≤ 256) => by
    have h := listAt_any kd hkd v xs (p + 4) d w hx hb hl (by omega) (by omega)
    rw [show ((p + 4 : Nat) : Int) = (p : Int) + 4 by omega] at h
    exact h)
  have HLN := hid (fun (nx : Nat) (hn : nx ≤ 16777216) (w2 : World) (hbl : Below w.heap.size w w2) => lanesAt_any v xs nx wd k w2 (hx.mono hbl) hb hl (by omega))
  have HLL := hid (fun m => listP_len kd m (p + 4) xs)
  have HNX := hid (fun m => listNx_le kd m (p + 4) xs hl)
  obtain ⟨A, ca, rfl, _, _, _⟩ := hx.form
  clear hx
  obtain ⟨R, hR⟩ : ∃ R, dictR kd wd k p xs = R := ⟨_, rfl⟩
  rw [hR]
  unfold dictR dN at hR
  obtain ⟨ok, hok⟩ : ∃ ok, numOk 4 p xs.length = ok := ⟨_, rfl⟩
  rw [hok] at hR HNA
  have hwl : L.wordOf 8 ((xs.drop p).take 4) < 4294967296 := wordOf4_lt _ (fun x hx => hb x (List.mem_of_mem_drop (List.mem_of_mem_take hx))) (by rw [List.length_take]; omega)
  generalize L.wordOf 8 ((xs.drop p).take 4) = d0 at *
  have HR := hid hR
  clear hR hok
  cases ok
  · have HRN := hid (show R = (false, []) by rw [← HR.out]; simp)
    clear HR
    simp only [Bool.false_eq_true, if_false] at HNA
    go_enter Tryz.func112, Tryz.ntmps112
    go_wp2_with (go_at_call 111; refine HNA.out.mono ?_; rintro e w1 ⟨rfl, hw⟩; replace hw := hw.symm; subst hw)
    go_ret2
    exact pans_no HRN.out (brefl w)
  simp only [if_true] at HNA HR
  by_cases h256 : 256 < d0
  · have HRN := hid (show R = (false, []) by rw [← HR.out, if_pos (.inr (.inl h256))])
    clear HR
    have h256i : (d0 : Int) > 256 := by omega
    go_enter Tryz.func112, Tryz.ntmps112
    go_wp2_with (go_at_call 111; refine HNA.out.mono ?_; rintro e w1 ⟨rfl, hw⟩; replace hw := hw.symm; subst hw)
    go_ret2
    exact pans_no HRN.out (brefl w)
  have hd256 : d0 ≤ 256 := by omega
  have h256i : ¬ (d0 : Int) > 256 := by omega
  have HNDd := hid (HND.out d0 hd256)
  have HLAd := hid (HLA.out d0 hd256)
  by_cases hwd : wd = needN d0
  rotate_left
  · have HRN := hid (show R = (false, []) by rw [← HR.out, if_pos (.inr (.inr hwd))])
    clear HR HLAd
    generalize needN d0 = nd at *
    have hne : ((wd : Int) != (nd : Int)) = true := by simp; omega
    go_enter Tryz.func112, Tryz.ntmps112
    go_wp2_with (first
      | (go_at_call 111; refine HNA.out.mono ?_; rintro e w1 ⟨rfl, hw⟩; replace hw := hw.symm; subst hw)
      | (go_at_call 163; refine (HNDd.out _).mono ?_; rintro e w1 ⟨rfl, hw⟩; replace hw := hw.symm; subst hw))
    go_ret2
    exact pans_no HRN.out (brefl w)
  rw [if_neg (by simp; omega)] at HR
  rw [← hwd] at HNDd
  have HLLd := hid (HLL.out d0)
  have HNXd := hid (HNX.out d0)
  have hne : ((wd : Int) != (wd : Int)) = false := by simp
  clear HND HLA HLL HNX hwd
  obtain ⟨lo, hlo⟩ : ∃ lo, listOk kd d0 (p + 4) xs = lo := ⟨_, rfl⟩
  rw [hlo] at HR HLAd HLLd
  generalize listP kd d0 (p + 4) xs = dict at *
  generalize listNx kd d0 (p + 4) xs = nx at *
  go_enter Tryz.func112, Tryz.ntmps112
  cases lo
  · have HRN := hid (show R = (false, []) by rw [← HR.out]; simp)
    clear HR
    go_wp2_with (first
      | (go_at_call 111; refine HNA.out.mono ?_; rintro e w1 ⟨rfl, hw⟩; replace hw := hw.symm; subst hw)
      | (go_at_call 163; refine (HNDd.out _).mono ?_; rintro e w1 ⟨rfl, hw⟩; replace hw := hw.symm; subst hw)
      | (go_at_call 115; refine HLAd.out.mono ?_; rintro e w2 ⟨u, rfl, ho2, hb2⟩; have HB2 := hid hb2; clear ho2 hb2))
    go_ret2
    exact pans_no HRN.out HB2.out
  have hdl : dict.length = d0 := HLLd.out rfl hkd
  go_upto_region 7 with (first
      | (go_at_call 111; refine HNA.out.mono ?_; rintro e w1 ⟨rfl, hw⟩; replace hw := hw.symm; subst hw)
      | (go_at_call 163; refine (HNDd.out _).mono ?_; rintro e w1 ⟨rfl, hw⟩; replace hw := hw.symm; subst hw)
      | (go_at_call 115; refine HLAd.out.mono ?_; rintro e w2 ⟨u, rfl, ho2, hb2⟩; have HO2 := hid ho2; have HB2 := hid hb2; obtain ⟨D, cd, rfl⟩ := owns3_form ho2; clear ho2 hb2))
  rw [hdl] at HO2
  have HRD2 := hid (owns3_rd HO2.out)
  have hsz2 := HB2.out.size
  have HDL := hid hdl
  clear HO2 HNA HNDd HLAd HLLd hdl
  go_wp2_with fail
  go_loopw [55] (fun i wr => ∃ t : Nat, t ≤ d0 ∧ i = .int .i64 t ∧ Hid (∀ u, u + 1 < t → geP (dict.getD u dfP) (dict.getD (u + 1) dfP) = false) ∧ Hid (Below w2.heap.size w2 wr)) (fun i _ => d0 - (intOf i).toNat)
  case atStart => exact ⟨0, by omega, rfl, hid (fun u h => absurd h (by omega)), hid (brefl w2)⟩
  case round =>
    obtain ⟨t, ht, rfl, HALL, HBW⟩ := hrel
    by_cases hlt : t < d0
    · rcases Nat.eq_zero_or_pos t with rfl | ht0
      · go_upto_region 10 with fail
        go_quiet (fail)
        go_wp2_with fail
        go_roundw
        case rel => exact ⟨1, by omega, by go_num, hid (fun u h => absurd h (by omega)), hid (bdrew HBW.out _)⟩
        case measure => simp [intOf]; omega
      · obtain ⟨u, hu⟩ : ∃ u, t = u + 1 := ⟨t - 1, by omega⟩
        obtain ⟨b, o, rfl, hcells⟩ := (HRD2.out.mono HBW.out).atP (by omega)
        obtain ⟨m0, m1, m2⟩ := hcells u (by rw [HDL.out]; omega)
        obtain ⟨l0, l1, l2⟩ := hcells t (by rw [HDL.out]; omega)
        have HG : Hid (geP (dict.getD u dfP) (dict.getD t dfP) = decide (0 ≤ ordP (dict.getD u dfP) (dict.getD t dfP))) := hid rfl
        have HORD := hid (fun (w2 : World) => order_any (dict.getD u dfP) (dict.getD t dfP) w2)
        have HBAD : Hid (geP (dict.getD u dfP) (dict.getD t dfP) = true → noPair geP dict = false) := hid (fun h => by
          rw [← Bool.not_eq_true, noPair_iff geP dfP]
          intro h2
          have := h2 u (by rw [HDL.out]; omega)
          rw [← hu, h] at this; cases this)
        have HNEXT : Hid (geP (dict.getD u dfP) (dict.getD t dfP) = false → ∀ z, z + 1 < t + 1 → geP (dict.getD z dfP) (dict.getD (z + 1) dfP) = false) := hid (fun h z hz => by
          by_cases hzu : z = u
          · subst hzu; rw [← hu]; exact h
          · exact HALL.out z (by omega))
        clear hcells
        generalize dict.getD u dfP = X at *
        generalize dict.getD t dfP = Y at *
        obtain ⟨xi, xs'⟩ := X
        obtain ⟨yi, ys'⟩ := Y
        simp only at m1 m2 l1 l2 HORD
        generalize ordP (xi, xs') (yi, ys') = od at *
        generalize geP (xi, xs') (yi, ys') = ge at *
        have i0 : (0 : Int) ≤ (u : Int) := by omega
        have i1 : (u : Int) < (d0 : Int) := by omega
        have i2 : (t : Int) < (d0 : Int) := by omega
        have i3 : (t : Int) > 0 := by omega
        have ia : (t : Int) - 1 = (u : Int) := by omega
        have iw : IntKind.i64.wrap ((t : Int) - 1) = (u : Int) := by rw [ia, IntKind.wrap_i64]; omega
        have iw2 : IntKind.i64.wrap (u : Int) = (u : Int) := by rw [IntKind.wrap_i64]; omega
        have hbl : b < wr.heap.size := World.block_lt_of_cell? wr _ m0
        clear hu
        go_upto_region 10 with fail
        go_region_held3 (fun w' => w'.cell? ⟨b, o + u * 3, none⟩ = some (.bool false) ∧ w'.cell? ⟨b, o + u * 3 + 1, none⟩ = some (.int .i64 xi) ∧ w'.cell? ⟨b, o + u * 3 + 2, none⟩ = some (.string xs') ∧ w'.cell? ⟨b, o + t * 3, none⟩ = some (.bool false) ∧ w'.cell? ⟨b, o + t * 3 + 1, none⟩ = some (.int .i64 yi) ∧ w'.cell? ⟨b, o + t * 3 + 2, none⟩ = some (.string ys')) (go_keep)
          (first | (go_at_call 64; refine (HORD.out _).mono ?_; rintro e w3 ⟨rfl, hb3⟩; have HB3 := hid ((bdrew (brefl wr) 1).trans hb3); have q0 := (hb3.cell (p := ⟨b, o + u * 3, none⟩) hbl).trans m0; have q1 := (hb3.cell (p := ⟨b, o + u * 3 + 1, none⟩) hbl).trans m1; have q2 := (hb3.cell (p := ⟨b, o + u * 3 + 2, none⟩) hbl).trans m2; have q3 := (hb3.cell (p := ⟨b, o + t * 3, none⟩) hbl).trans l0; have q4 := (hb3.cell (p := ⟨b, o + t * 3 + 1, none⟩) hbl).trans l1; have q5 := (hb3.cell (p := ⟨b, o + t * 3 + 2, none⟩) hbl).trans l2; clear hb3))
        by_cases hod : 0 ≤ od
        · have HRN := hid (show R = (false, []) by rw [← HR.out, if_pos (.inr (HBAD.out (by rw [HG.out]; simp [hod])))])
          go_wp2_with fail
          go_ret2
          exact pans_no HRN.out (Below.then' HB2.out (Below.then' HBW.out HB3.out HBW.out.size) hsz2)
        · have HN2 := hid (HNEXT.out (by rw [HG.out]; simp; omega))
          go_wp2_with fail
          go_roundw
          case rel => exact ⟨t + 1, by omega, by go_num, HN2, hid (Below.then' HBW.out HB3.out HBW.out.size)⟩
          case measure => simp [intOf]; omega
    · obtain rfl : t = d0 := by omega
      have hnp : noPair geP dict = true := (noPair_iff geP dfP dict).2 (fun z hz => HALL.out z (by rw [← HDL.out]; exact hz))
      rw [if_neg (by rw [hnp]; simp)] at HR
      have HBWW := hid (Below.then' HB2.out HBW.out hsz2)
      have HLNw := hid (HLN.out nx HNXd wr HBWW.out)
      have hcl := lanesV_len wd k nx xs
      have hcv := lanesV_lt wd k nx xs
      have HDR := hid (HRD2.out.mono HBW.out)
      generalize lanesV wd k nx xs = CV at *
      generalize lanesOk wd k nx xs = lk at *
      clear HRD2 hnp HALL HLN HB2 HBW
      go_upto_region 15 with (go_at_call 164; refine HLNw.out.mono ?_; rintro e w3 ⟨cu, rfl, ho3, hb3⟩; have HO3 := hid (owns_rd ho3); have HB3 := hid hb3; obtain ⟨E, ce, rfl, hce1, hce2, _, _⟩ := owns_form ho3; clear ho3 hb3)
      have HDR3 := hid (HDR.out.mono HB3.out)
      have HBW3 := hid (Below.then' HBWW.out HB3.out HBWW.out.size)
      obtain ⟨cn, hcn⟩ : ∃ cn, CV.length = cn := ⟨_, rfl⟩
      have HCN := hid hcn
      rw [hcn] at HO3 hcl hce1 ⊢
      clear HDR HBWW HLNw hcn
      unfold maxLen at hce2
      go_wp2_with fail
      go_loopw [18, 84] (fun s i wz => ∃ z : Nat, z ≤ cn ∧ i = .int .i64 z ∧ Hid (∀ y, y < z → CV.getD y 0 < t) ∧ Hid (wz.ownsRow w3.heap.size 42 3 s z (cellsP ((CV.take z).map fun c => dict.getD c dfP))) ∧ Hid (Below w3.heap.size w3 wz)) (fun _ i _ => cn - (intOf i).toNat)
      case atStart => exact ⟨0, by omega, rfl, hid (fun y h => absurd h (Nat.not_lt_zero y)), hid ⟨by simp [cellsP], .inl ⟨rfl, rfl⟩⟩, hid (brefl w3)⟩
      case round =>
        obtain ⟨z, hz, rfl, HALL, HOWN, HBZ⟩ := hrel
        have hszz := HBZ.out.size
        obtain ⟨A2, c2, rfl⟩ := owns3_form HOWN.out
        have hBz : w.heap.size ≤ wr.heap.size := Nat.le_trans HBW3.out.size hszz
        have HBWZ := hid (Below.then' HBW3.out HBZ.out HBW3.out.size)
        by_cases hlt2 : z < cn
        · obtain ⟨b, o, rfl, hs⟩ := (HO3.out.mono HBZ.out).atW (by omega)
          have e1 := hs z (by rw [HCN.out]; exact hlt2)
          have hx64 := hcv (CV.getD z 0) (by simp [List.getD, List.getElem?_eq_getElem (show z < CV.length by rw [HCN.out]; exact hlt2)])
          have HSN := hid (take_map_snoc (fun c => dict.getD c dfP) 0 CV z (by rw [HCN.out]; exact hlt2))
          have HBAD : Hid (¬ CV.getD z 0 < t → (CV.all fun c => decide (c < t)) = false) := hid (fun h => by
            rw [← Bool.not_eq_true]
            intro h2
            simp only [List.all_eq_true, decide_eq_true_eq] at h2
            exact h (h2 _ (by simp [List.getD, List.getElem?_eq_getElem (show z < CV.length by rw [HCN.out]; exact hlt2)])))
          clear hs
          by_cases hbig : CV.getD z 0 < t
          · obtain ⟨b', o', rfl, hcells⟩ := (HDR3.out.mono HBZ.out).atP (by omega)
            obtain ⟨l0, l1, l2⟩ := hcells (CV.getD z 0) (by rw [HDL.out]; exact hbig)
            have HNX2 : Hid (∀ y, y < z + 1 → CV.getD y 0 < t) := hid (fun y hy => by
              by_cases hyz : y = z
              · subst hyz; exact hbig
              · exact HALL.out y (by omega))
            clear hcells HBAD
            generalize dict.getD (CV.getD z 0) dfP = X at *
            generalize CV.getD z 0 = x at *
            obtain ⟨xi, xs'⟩ := X
            simp only at l1 l2
            have i1 : ¬ (x : Int) ≥ (t : Int) := by omega
            go_wp2_with (at_builtin; refine wpList_append3 rfl (.tmp 91) (.tmp 96) rfl 42 [.bool false, .int .i64 0, .string ByteArray.empty] 32 Tryz.underlying23 Tryz.infoCell rfl rfl rfl HOWN.out hszz (by intro u hu; simp at hu; rcases hu with rfl | rfl | rfl <;> rfl) (by unfold maxLen; omega) (by omega) ?_; intro v' w' ho hb3)
            go_roundw
            case rel =>
              refine ⟨z + 1, by omega, by go_num, HNX2, hid ?_, hid (Below.trans HBZ.out hb3)⟩
              rw [HSN.out, cellsP_snoc]
              exact ho
            case measure => simp [intOf]; omega
          · have HRN := hid (show R = (false, []) by rw [← HR.out, if_pos (HBAD.out hbig)])
            generalize CV.getD z 0 = x at *
            have i1 : (x : Int) ≥ (t : Int) := by omega
            go_wp2_with fail
            go_ret2
            exact pans_no HRN.out HBWZ.out
        · obtain rfl : z = cn := by omega
          have hall : (CV.all fun c => decide (c < t)) = true := by
            simp only [List.all_eq_true, decide_eq_true_eq]
            intro x hx
            obtain ⟨y, hy, rfl⟩ := List.getElem_of_mem hx
            have := HALL.out y (by rw [← HCN.out]; exact hy)
            simpa [List.getD, List.getElem?_eq_getElem hy] using this
          have HRF := hid (show R = (lk, CV.map fun c => dict.getD c dfP) by rw [← HR.out, if_neg (by rw [hall]; simp)])
          have HOWN2 : Hid (wr.ownsRow w.heap.size 42 3 (.slice A2 z c2) (CV.map fun c => dict.getD c dfP).length (cellsP (CV.map fun c => dict.getD c dfP))) := hid (by
            have h := owns3_mono HOWN.out HBW3.out.size
            rw [← HCN.out, List.take_length] at h
            rw [List.length_map]
            rw [← HCN.out]
            exact h)
          go_wp2_with fail
          go_ret2
          rw [HRF.out]
          exact ⟨_, rfl, ⟨_, _, _, rfl⟩, fun _ => HOWN2.out, HBWZ.out⟩
end Go.Proofs.YthonbfojpbfmgaaGreatDoor

/- The plain answer: runs. -/
set_option linter.unusedVariables false
set_option linter.unusedSimpArgs false
set_option linter.unnecessarySimpa false
set_option maxRecDepth 100000
namespace Go.Proofs.YthonbfojpbfmgaaGreatDoor
open Go.RowKit

/-- what the first i runs stand for -/
def fillP (heads : List PV) (ends : List Nat) : Nat → List PV
  | 0 => []
  | i + 1 => fillP heads ends i ++ List.replicate (ends.getD i 0 - (fillP heads ends i).length) (heads.getD i dfP)
theorem endsUp_app (es fs : List Int) : ∀ (l m : Int), endsUp l es = some m → endsUp l (es ++ fs) = endsUp m fs := by
  induction es with
  | nil => intro l m h; simp [endsUp] at h; subst h; rfl
  | cons a r ih =>
    intro l m h
    simp only [List.cons_append, endsUp] at h ⊢
    split at h
    · cases h
    · rename_i hc; rw [if_neg hc]; exact ih a m h
theorem endsUp_ge (es : List Int) : ∀ (l m : Int), endsUp l es = some m → l ≤ m := by
  induction es with
  | nil => intro l m h; simp [endsUp] at h; omega
  | cons a r ih =>
    intro l m h
    simp only [endsUp] at h
    split at h
    · cases h
    · have := ih a m h; omega
theorem nI_getD (xs : List Nat) (i : Nat) (h : i < xs.length) : (nI xs).getD i 0 = ((xs.getD i 0 : Nat) : Int) := by
  simp [nI, List.getD, List.getElem?_eq_getElem h]
theorem endsUp_step (ends : List Nat) (i l : Nat) (hi : i < ends.length) (h : endsUp 0 (nI (ends.take i)) = some (l : Int)) :
    endsUp 0 (nI (ends.take (i + 1))) = if ends.getD i 0 ≤ l then none else some ((ends.getD i 0 : Nat) : Int) := by
  have e : ends.take (i + 1) = ends.take i ++ [ends.getD i 0] := by
    rw [List.take_succ_eq_append_getElem hi]; simp [List.getD, List.getElem?_eq_getElem hi]
  rw [e, nI_append, show nI [ends.getD i 0] = [((ends.getD i 0 : Nat) : Int)] from rfl, endsUp_snoc, h]
  simp only [Option.bind_some]
  by_cases hc : ends.getD i 0 ≤ l
  · rw [if_pos hc, if_pos (by omega)]
  · rw [if_neg hc, if_neg (by omega)]
theorem runEnds_no1 (ends : List Nat) (i : Nat) (k : Int) (h : endsUp 0 (nI (ends.take i)) = none) : runEnds (nI ends) k = false := by
  have := endsUp_none (nI (ends.take i)) (nI (ends.drop i)) 0 h
  rw [← nI_append, List.take_append_drop] at this
  simp [runEnds, this]
theorem runEnds_no2 (ends : List Nat) (i : Nat) (k m : Int) (h : endsUp 0 (nI (ends.take i)) = some m) (hm : k < m) : runEnds (nI ends) k = false := by
  have h2 := endsUp_app (nI (ends.take i)) (nI (ends.drop i)) 0 m h
  rw [← nI_append, List.take_append_drop] at h2
  unfold runEnds
  rw [h2]
  cases he : endsUp m (nI (ends.drop i)) with
  | none => rfl
  | some x =>
    have := endsUp_ge _ _ _ he
    simp; omega
theorem fillP_len (heads : List PV) (ends : List Nat) : ∀ (i l : Nat), i ≤ ends.length → endsUp 0 (nI (ends.take i)) = some (l : Int) → (fillP heads ends i).length = l
  | 0, l, _, h => by simp [nI, endsUp] at h; simp [fillP]; omega
  | i + 1, l, hi, h => by
    cases h0 : endsUp 0 (nI (ends.take i)) with
    | none =>
      have e : ends.take (i + 1) = ends.take i ++ [ends.getD i 0] := by
        rw [List.take_succ_eq_append_getElem (by omega)]; simp [List.getD, List.getElem?_eq_getElem (show i < ends.length by omega)]
      rw [e, nI_append, endsUp_none _ _ _ h0] at h
      cases h
    | some m =>
      have hm := endsUp_ge _ _ _ h0
      obtain ⟨m, rfl⟩ := Int.eq_ofNat_of_zero_le hm
      have ih := fillP_len heads ends i m (by omega) h0
      rw [endsUp_step ends i m (by omega) h0] at h
      split at h
      · cases h
      · injection h with h
        simp only [fillP, List.length_append, List.length_replicate, ih]
        omega
def runsR (kd k p : Nat) (xs : List Nat) : Bool × List PV :=
  if numOk 4 p xs.length = false ∨ k < dN p xs then (false, [])
  else if numsOk 4 (dN p xs) (p + 4) xs.length = false then (false, [])
  else if listOk kd (dN p xs) (p + 4 + 4 * dN p xs) xs = false ∨ ¬ listNx kd (dN p xs) (p + 4 + 4 * dN p xs) xs = xs.length then (false, [])
  else if noPair eqP (listP kd (dN p xs) (p + 4 + 4 * dN p xs) xs) = false ∨ runEnds (nI (numL 4 (tk (4 * dN p xs) (xs.drop (p + 4))))) k = false then (false, [])
  else (true, fillP (listP kd (dN p xs) (p + 4 + 4 * dN p xs) xs) (numL 4 (tk (4 * dN p xs) (xs.drop (p + 4)))) (dN p xs))
end Go.Proofs.YthonbfojpbfmgaaGreatDoor
