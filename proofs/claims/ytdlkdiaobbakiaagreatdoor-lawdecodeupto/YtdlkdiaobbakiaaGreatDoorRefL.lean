/- The plain answer: lists of values at a place. -/
import Derived.Test.YtdlkdiaobbakiaaGreatDoorRefI
set_option linter.unusedVariables false
set_option linter.unusedSimpArgs false
set_option linter.unnecessarySimpa false
set_option maxRecDepth 100000
namespace Go.Proofs.YtdlkdiaobbakiaaGreatDoor
open Go.RowKit

theorem Rd.short {w : World} {A : Option Addr} {c L : Nat} {xs : List Nat} (h : Rd w (.slice A L c) xs.length 1 (u8s xs)) (n : Nat) (hn : n ≤ xs.length) : Rd w (.slice A n c) (xs.take n).length 1 (u8s (xs.take n)) := by
  have hl : (xs.take n).length = n := by rw [List.length_take]; omega
  rw [hl]
  refine ⟨by rw [u8s_length, hl]; omega, ?_⟩
  rcases h.2 with ⟨⟨A', e⟩, h0⟩ | ⟨b, o, cap, e, h1, h2, hs⟩
  · simp only [Value.slice.injEq] at e
    obtain ⟨rfl, rfl, rfl⟩ := e
    obtain rfl : n = 0 := by omega
    exact .inl ⟨⟨A, rfl⟩, rfl⟩
  · cases e
    refine .inr ⟨b, o, c, rfl, by omega, h2, fun i v hv => hs i v ?_⟩
    rw [← take_u8s, List.getElem?_take] at hv
    split at hv
    · exact hv
    · cases hv
theorem numL_tk_len (size c : Nat) (xs : List Nat) (hl : xs.length ≤ 1048576) (h0 : 1 ≤ size) : (numL size (tk c xs)).length ≤ 1048576 := by
  rw [numL_length]; unfold tk; split
  · rw [List.length_take]; exact Nat.le_trans (Nat.div_le_self _ _) (Nat.le_trans (Nat.min_le_right _ _) hl)
  · simp
set_option maxHeartbeats 4000000 in
theorem listAtI_any (v : Value) (xs : List Nat) (p m : Nat) (w : World) (hx : Rd w v xs.length 1 (u8s xs)) (hb : ∀ x ∈ xs, x < 256) (hl : xs.length ≤ 1048576) (hp : p ≤ 1099511627776) (hm : m ≤ 4294967296) :
    Calls Tryz.prog 50 #[v, .int .i64 p, .int .i64 1, .int .i64 m] w fun e w' =>
      ∃ u, e = .returned (.tuple #[u, .int .i64 (if numsOk 8 m p xs.length = true then p + 8 * m else 0 : Nat), .bool (numsOk 8 m p xs.length)]) ∧
        w'.ownsRow w.heap.size 38 3 u ((numL 8 (tk (8 * m) (xs.drop p))).map sgn64).length (cellsI ((numL 8 (tk (8 * m) (xs.drop p))).map sgn64)) ∧ Below w.heap.size w w' := by
  have HN := hid (numbersAt_any v xs p 8 m w hx hb hl (.inr rfl) hp hm)
  have hyl : (numL 8 (tk (8 * m) (xs.drop p))).length ≤ 1048576 := numL_tk_len _ _ _ (by rw [List.length_drop]; omega) (by omega)
  have hyv : ∀ x ∈ numL 8 (tk (8 * m) (xs.drop p)), x < 18446744073709551616 := numL_lt (tk_lt (fun x h => hb x (List.mem_of_mem_drop h))) (by omega)
  obtain ⟨A, ca, rfl, _, _, _⟩ := hx.form
  generalize numL 8 (tk (8 * m) (xs.drop p)) = ys at *
  generalize (if numsOk 8 m p xs.length = true then p + 8 * m else 0) = nx at *
  generalize numsOk 8 m p xs.length = ok at *
  have HSNOC := hid (fun j h => take_map_snoc sgn64 0 ys j h)
  obtain ⟨B, hB⟩ : ∃ B, w.heap.size = B := ⟨_, rfl⟩
  have HBE := hid hB
  rw [hB]
  clear hx hb hB
  go_enter Tryz.func50, Tryz.ntmps50
  go_wp2_with fail
  refine HN.out.mono ?_
  rintro e w1 ⟨u, rfl, ho, hb1⟩
  have hf := owns_rd ho
  obtain ⟨A1, c1, rfl, _, _, hA1⟩ := hf.form
  have HRD := hid hf
  have HB1 := hid hb1
  clear ho hf hb1 HN hA1
  go_wp2
  go_loopw [11, 36] (fun u i wr => ∃ j : Nat, j ≤ ys.length ∧ i = .int .i64 j ∧ wr.ownsRow w1.heap.size 38 3 u j (cellsI ((ys.take j).map sgn64)) ∧ Below w1.heap.size w1 wr) (fun _ i _ => ys.length - (intOf i).toNat)
  case atStart => exact ⟨0, by omega, rfl, by simpa [cellsI] using World.ownsRow_nil _ _ _ _, brefl w1⟩
  case round =>
    obtain ⟨j, hj, rfl, hown, hbw⟩ := hrel
    have HOWN := hid hown
    obtain ⟨A2, c2, rfl⟩ := owns3_form hown
    clear hown
    by_cases hlt : j < ys.length
    · obtain ⟨A3, c3, he, _, _, hA3⟩ := (HRD.out.mono hbw).form
      cases he
      obtain ⟨b, o, rfl, hs⟩ := hA3 (by omega)
      have c1' := hs.word j hlt
      have hx64 := hyv (ys.getD j 0) (by simp [List.getD, List.getElem?_eq_getElem hlt])
      have HST := hid (HSNOC.out j hlt)
      have hBw : w1.heap.size ≤ wr.heap.size := hbw.size
      clear hs hA3
      generalize ys.getD j 0 = x at *
      go_wp2_with (at_builtin; refine wpList_append3 rfl (.tmp 40) (.tmp 44) rfl 38 [.bool false, .int .i64 0, .string ByteArray.empty] 32 Tryz.underlying26 Tryz.infoCell rfl rfl rfl HOWN.out hBw (by intro u hu; simp at hu; rcases hu with rfl | rfl | rfl <;> rfl) (by unfold maxLen; omega) (by omega) ?_; intro v' w' ho hb3)
      go_roundw
      case rel =>
        refine ⟨j + 1, by omega, by go_num, ?_, hbw.trans hb3⟩
        rw [HST.out, cellsI_snoc]
        exact ho
      case measure => simp [intOf]; omega
    · obtain rfl : j = ys.length := by omega
      go_wp2
      go_ret3
      refine ⟨_, rfl, ?_, by rw [← HBE.out]; exact bthen HB1.out hbw⟩
      have := HOWN.out
      rw [List.take_length] at this
      rw [List.length_map]
      exact owns3_mono this (by have := HBE.out; have := HB1.out.size; omega)

/-- is there a list of m strings at place p? -/
def strsOk (m p : Nat) (xs : List Nat) : Bool := numsOk 4 m p xs.length && match textEnd 0 (nI (numL 4 (tk (4 * m) (xs.drop p)))) with
  | none => false
  | some sz => decide (sz ≤ ((xs.length - (p + 4 * m) : Nat) : Int))
def strsV (m p : Nat) (xs : List Nat) : List ByteArray := if strsOk m p xs = true then cutS 0 (xs.drop (p + 4 * m)) (nI (numL 4 (tk (4 * m) (xs.drop p)))) else []
def strsNx (m p : Nat) (xs : List Nat) : Nat := if strsOk m p xs = true then p + 4 * m + (tsz (nI (numL 4 (tk (4 * m) (xs.drop p))))).toNat else 0

set_option maxHeartbeats 8000000 in
theorem listAtS_any (v : Value) (xs : List Nat) (p m : Nat) (w : World) (hx : Rd w v xs.length 1 (u8s xs)) (hb : ∀ x ∈ xs, x < 256) (hl : xs.length ≤ 1048576) (hp : p ≤ 1099511627776) (hm : m ≤ 4294967296) :
    Calls Tryz.prog 50 #[v, .int .i64 p, .int .i64 2, .int .i64 m] w fun e w' =>
      ∃ u, e = .returned (.tuple #[u, .int .i64 (strsNx m p xs : Nat), .bool (strsOk m p xs)]) ∧
        w'.ownsRow w.heap.size 38 3 u (strsV m p xs).length (cellsS (strsV m p xs)) ∧ Below w.heap.size w w' := by
  have HN := hid (numbersAt_any v xs p 4 m w hx hb hl (.inl rfl) hp hm)
  have hyl : (numL 4 (tk (4 * m) (xs.drop p))).length ≤ 1048576 := numL_tk_len _ _ _ (by rw [List.length_drop]; omega) (by omega)
  have hyv : ∀ x ∈ numL 4 (tk (4 * m) (xs.drop p)), x < 4294967296 := numL4_lt (tk_lt (fun x h => hb x (List.mem_of_mem_drop h)))
  have HX := hid hx
  obtain ⟨A, ca, rfl, hlc, hcm, hA⟩ := hx.form
  cases hok : numsOk 4 m p xs.length with
  | false =>
    have e1 : strsOk m p xs = false := by unfold strsOk; rw [hok, Bool.false_and]
    have e2 : strsV m p xs = [] := by unfold strsV; rw [e1]; simp
    have e3 : strsNx m p xs = 0 := by unfold strsNx; rw [e1]; simp
    have e4 : numL 4 (tk (4 * m) (xs.drop p)) = [] := by
      unfold numsOk at hok
      have hok' : ¬ (p ≤ xs.length ∧ 4 * m ≤ xs.length - p) := by simpa using hok
      unfold tk numL
      by_cases h2 : p ≤ xs.length
      · rw [if_neg (by rw [List.length_drop]; exact fun h => hok' ⟨h2, h⟩)]; simp
      · rw [List.drop_of_length_le (by omega)]; split <;> simp
    rw [e1, e2, e3]
    rw [hok, e4, if_neg (by simp)] at HN
    clear hx hb hA e1 e2 e3 e4 hyl hyv HX hok
    go_enter Tryz.func50, Tryz.ntmps50
    go_wp2_with fail
    refine HN.out.mono ?_
    rintro e w1 ⟨u, rfl, ho, hb1⟩
    obtain ⟨A1, c1, rfl, _, _, _⟩ := owns_form ho
    have HB1 := hid hb1
    clear ho hb1 HN
    go_wp2
    go_loopw [11, 20, 60] (fun a l i wr => i = .int .i64 0 ∧ a = .slice none 0 0 ∧ l = .int .i64 0 ∧ wr = w1) (fun _ _ i _ => 0)
    case atStart => exact ⟨rfl, rfl, rfl, rfl⟩
    case round =>
      obtain ⟨rfl, rfl, rfl, rfl⟩ := hrel
      go_wp2
      go_ret3
      exact ⟨_, rfl, World.ownsRow_nil _ _ _ _, HB1.out⟩
  | true =>
    have hok' : p ≤ xs.length ∧ 4 * m ≤ xs.length - p := by unfold numsOk at hok; exact of_decide_eq_true hok
    obtain ⟨tx, htx⟩ : ∃ tx, p + 4 * m = tx := ⟨_, rfl⟩
    have htl : tx ≤ xs.length := by omega
    rw [hok, if_pos rfl, htx] at HN
    have hm1 : m ≤ 1048576 := by omega
    obtain ⟨es, hes⟩ : ∃ es, nI (numL 4 (tk (4 * m) (xs.drop p))) = es := ⟨_, rfl⟩
    obtain ⟨S, hS⟩ : ∃ S, strsV m p xs = S := ⟨_, rfl⟩
    obtain ⟨nx, hnx⟩ : ∃ nx, strsNx m p xs = nx := ⟨_, rfl⟩
    obtain ⟨ok, hokk⟩ : ∃ ok, strsOk m p xs = ok := ⟨_, rfl⟩
    have HS := hid hS
    have HNX := hid hnx
    have HOK := hid hokk
    unfold strsV at HS
    unfold strsNx at HNX
    rw [hokk, htx, hes] at HS
    rw [hokk, htx, hes] at HNX
    unfold strsOk at HOK
    rw [hok, Bool.true_and, htx, hes] at HOK
    rw [hS, hnx, hokk]
    generalize hys : numL 4 (tk (4 * m) (xs.drop p)) = ys at *
    have hel : es.length = ys.length := by rw [← hes, nI_length]
    have heg : ∀ j, j < ys.length → es.getD j 0 = ((ys.getD j 0 : Nat) : Int) := by
      intro j hj
      rw [← hes]
      simp [nI, List.getD, List.getElem?_map, List.getElem?_eq_getElem hj]
    have HEG := hid heg
    clear heg hes hS hnx hokk hys hok hok' htx hx hA
    have HYV := hid hyv
    obtain ⟨B, hB⟩ : ∃ B, w.heap.size = B := ⟨_, rfl⟩
    have HBE := hid hB
    rw [hB]
    clear hB hyv
    go_enter Tryz.func50, Tryz.ntmps50
    go_wp2_with fail
    refine HN.out.mono ?_
    rintro e w1 ⟨u, rfl, ho, hb1⟩
    have hf := owns_rd ho
    obtain ⟨A1, c1, rfl, _, _, hA1⟩ := hf.form
    have HRD := hid hf
    have HB1 := hid hb1
    clear ho hf hb1 HN hA1
    go_wp2
    go_loopw [11, 20, 60] (fun a u i wr => ∃ (j : Nat) (l : Nat), j ≤ ys.length ∧ i = .int .i64 j ∧ u = .int .i64 l ∧ Hid (textEnd 0 (es.take j) = some (l : Int)) ∧ l ≤ xs.length - tx ∧ wr.ownsRow w1.heap.size 38 3 a j (cellsS (cutS 0 (xs.drop tx) (es.take j))) ∧ Below w1.heap.size w1 wr) (fun _ _ i _ => ys.length - (intOf i).toNat)
    case atStart => exact ⟨0, 0, by omega, rfl, rfl, hid rfl, by omega, by simpa [cellsS, cutS] using World.ownsRow_nil _ _ _ _, brefl w1⟩
    case round =>
      obtain ⟨j, l, hj, rfl, rfl, hu, hlx, hown, hbw⟩ := hrel
      have HOWN := hid hown
      obtain ⟨A2, c2, rfl⟩ := owns3_form hown
      clear hown
      by_cases hlt : j < ys.length
      · obtain ⟨A3, c3, he, _, _, hA3⟩ := (HRD.out.mono hbw).form
        cases he
        obtain ⟨b, o, rfl, hs⟩ := hA3 (by omega)
        have c1' := hs.word j hlt
        have hx32 := HYV.out (ys.getD j 0) (by simp [List.getD, List.getElem?_eq_getElem hlt])
        have htk : es.take (j + 1) = es.take j ++ [((ys.getD j 0 : Nat) : Int)] := by
          rw [← HEG.out j hlt, List.take_succ_eq_append_getElem (by omega)]; simp [List.getD, List.getElem?_eq_getElem (show j < es.length by omega)]
        have hsn : textEnd 0 (es.take (j + 1)) = if ((ys.getD j 0 : Nat) : Int) < (l : Int) ∨ ((ys.getD j 0 : Nat) : Int) - (l : Int) > 1024 then none else some ((ys.getD j 0 : Nat) : Int) := by
          rw [htk, textEnd_snoc, hu.out]; rfl
        have hcut := cutS_snoc (xs.drop tx) (es.take j) 0 ((ys.getD j 0 : Nat) : Int) (l : Int) hu.out
        rw [← htk] at hcut
        have hall := textEnd_append (es.take (j + 1)) (es.drop (j + 1)) 0
        rw [List.take_append_drop] at hall
        have HBAD : Hid (textEnd 0 (es.take (j + 1)) = none ∨ xs.length - tx < ys.getD j 0 → ok = false) := by
          refine hid fun h => ?_
          have h2 := HOK.out
          cases hte : textEnd 0 es with
          | none => rw [hte] at h2; exact h2.symm
          | some sz =>
            rw [hte] at h2 hall
            rcases h with h | h
            · rw [h] at hall; cases hall
            · by_cases hn : textEnd 0 (es.take (j + 1)) = none
              · rw [hn] at hall; cases hall
              · rw [hsn] at hn hall
                split at hn
                · exact absurd rfl hn
                · rename_i hc
                  rw [if_neg hc] at hall
                  have := textEnd_le _ _ _ hall.symm
                  rw [← h2]
                  exact decide_eq_false (by omega)
        have HSN := hid hsn
        have HCUT := hid hcut
        have hBw : w1.heap.size ≤ wr.heap.size := hbw.size
        have HXW := hid (HX.out.mono (bthen HB1.out hbw))
        clear hs hA3 hsn hcut hall htk
        generalize ys.getD j 0 = x at *
        by_cases hbad : x < l ∨ l + 1024 < x ∨ xs.length - tx < x
        · have hof : ok = false := HBAD.out (by
            rcases hbad with h | h | h
            · exact .inl (by rw [HSN.out, if_pos (.inl (by omega))])
            · exact .inl (by rw [HSN.out, if_pos (.inr (by omega))])
            · exact .inr h)
          subst hof
          have hS0 := HS.out
          have hN0 := HNX.out
          rw [if_neg (by simp)] at hS0 hN0
          subst hS0
          subst hN0
          by_cases h1 : x < l
          · have h1' : (x : Int) < (l : Int) := by omega
            go_wp2
            go_ret3
            exact ⟨_, rfl, World.ownsRow_nil _ _ _ _, by rw [← HBE.out]; exact bthen HB1.out hbw⟩
          · have h1' : ¬ (x : Int) < (l : Int) := by omega
            by_cases h2 : l + 1024 < x
            · have h2' : (x : Int) > (l : Int) + 1024 := by omega
              go_wp2
              go_ret3
              exact ⟨_, rfl, World.ownsRow_nil _ _ _ _, by rw [← HBE.out]; exact bthen HB1.out hbw⟩
            · have h2' : ¬ (x : Int) > (l : Int) + 1024 := by omega
              have h3' : (x : Int) > (xs.length : Int) - (tx : Int) := by omega
              go_wp2
              go_ret3
              exact ⟨_, rfl, World.ownsRow_nil _ _ _ _, by rw [← HBE.out]; exact bthen HB1.out hbw⟩
        · have h1' : ¬ (x : Int) < (l : Int) := by omega
          have h2' : ¬ (x : Int) > (l : Int) + 1024 := by omega
          have h3' : ¬ (x : Int) > (xs.length : Int) - (tx : Int) := by omega
          obtain ⟨q, hq⟩ : ∃ q, tx + l = q := ⟨_, rfl⟩
          have hq1 : (tx : Int) + (l : Int) = (q : Int) := by omega
          obtain ⟨q2, hq2⟩ : ∃ q2, tx + x = q2 := ⟨_, rfl⟩
          have hq2' : (tx : Int) + (x : Int) = (q2 : Int) := by omega
          have hqq : q ≤ q2 := by omega
          have hqx : q2 ≤ xs.length := by omega
          have HCUT2 : Hid (cutS 0 (xs.drop tx) (es.take (j + 1)) = cutS 0 (xs.drop tx) (es.take j) ++ [ofBytes ((xs.drop q).take (q2 - q))]) := hid (by
            rw [HCUT.out, List.drop_drop]
            congr 3
            rw [show ((x : Int) - (l : Int)).toNat = q2 - q by omega, show tx + ((l : Nat) : Int).toNat = q by rw [Int.toNat_natCast]; exact hq])
          have HCQ := hid hcm
          clear HCUT HBAD hq hq2 hcm
          by_cases hcq : ca = q
          · obtain rfl : q2 = q := by omega
            obtain rfl : q2 = ca := by omega
            have hcv := run_str (xs := []) (show Rd wr (.slice A 0 0) ([] : List Nat).length 1 (u8s []) from rd_nil wr A)
            have hof : ofBytes ((xs.drop q2).take (q2 - q2)) = ofBytes [] := by simp
            rw [hof] at HCUT2
            generalize ofBytes [] = SS at *
            go_wp2_with (at_builtin; refine wpList_append3 rfl (.tmp 83) (.tmp 94) rfl 38 [.bool false, .int .i64 0, .string ByteArray.empty] 32 Tryz.underlying26 Tryz.infoCell rfl rfl rfl HOWN.out hBw (by intro u hu; simp at hu; rcases hu with rfl | rfl | rfl <;> rfl) (by unfold maxLen; omega) (by omega) ?_; intro v' w' ho hb3)
            go_roundw
            case rel =>
              refine ⟨j + 1, x, by omega, by go_num, rfl, hid (by rw [HSN.out, if_neg (by omega)]), by omega, ?_, hbw.trans hb3⟩
              rw [HCUT2.out, cellsS_snoc]
              exact ho
            case measure => simp [intOf]; omega
          · have hcv := run_str ((HXW.out.rear q (by omega) hcq).short (q2 - q) (by rw [List.length_drop]; omega))
            generalize ofBytes ((xs.drop q).take (q2 - q)) = SS at *
            go_wp2_with (at_builtin; refine wpList_append3 rfl (.tmp 83) (.tmp 94) rfl 38 [.bool false, .int .i64 0, .string ByteArray.empty] 32 Tryz.underlying26 Tryz.infoCell rfl rfl rfl HOWN.out hBw (by intro u hu; simp at hu; rcases hu with rfl | rfl | rfl <;> rfl) (by unfold maxLen; omega) (by omega) ?_; intro v' w' ho hb3)
            go_roundw
            case rel =>
              refine ⟨j + 1, x, by omega, by go_num, rfl, hid (by rw [HSN.out, if_neg (by omega)]), by omega, ?_, hbw.trans hb3⟩
              rw [HCUT2.out, cellsS_snoc]
              exact ho
            case measure => simp [intOf]; omega
      · obtain rfl : j = ys.length := by omega
        have htake : es.take ys.length = es := by rw [← hel, List.take_length]
        have hu2 := hu.out
        rw [htake] at hu2
        have hof : ok = true := by
          have h2 := HOK.out
          rw [hu2] at h2
          rw [← h2]
          exact decide_eq_true (by omega)
        subst hof
        have hS0 := HS.out
        have hN0 := HNX.out
        rw [if_pos rfl] at hS0 hN0
        have hts : tsz es = (l : Int) := by rw [tsz, hu2]; rfl
        rw [hts, Int.toNat_natCast] at hN0
        have hown2 := HOWN.out
        rw [htake, hS0] at hown2
        have hSl : S.length = ys.length := by rw [← hS0, cutS_length, hel]
        have HO2 := hid hown2
        clear hown2 hu2 hS0 HOWN HOK HS HNX
        subst hN0
        go_wp2
        go_ret3
        refine ⟨_, rfl, ?_, by rw [← HBE.out]; exact bthen HB1.out hbw⟩
        rw [hSl]
        exact owns3_mono HO2.out (by have := HBE.out; have := HB1.out.size; omega)
end Go.Proofs.YtdlkdiaobbakiaaGreatDoor
