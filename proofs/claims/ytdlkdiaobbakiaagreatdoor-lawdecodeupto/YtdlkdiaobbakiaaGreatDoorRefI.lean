/- The plain answer: lists of integers, sums. -/
import Derived.Test.YtdlkdiaobbakiaaGreatDoorApp3
import Derived.Test.YtdlkdiaobbakiaaGreatDoorPay4I
set_option linter.unusedVariables false
set_option linter.unusedSimpArgs false
set_option linter.unnecessarySimpa false
set_option maxRecDepth 100000
namespace Go.Proofs.YtdlkdiaobbakiaaGreatDoor
open Go.RowKit

theorem owns3_mono {w : World} {B C : Nat} {e : TypeId} {v : Value} {n : Nat} {cs : List Value} (h : w.ownsRow B e 3 v n cs) (hC : C ≤ B) : w.ownsRow C e 3 v n cs := by
  refine ⟨h.1, ?_⟩
  rcases h.2 with hn | ⟨g, cap, cur, rfl, hb', hg, r⟩
  · exact .inl hn
  · exact .inr ⟨g, cap, cur, rfl, Nat.le_trans hC hb', hg, r⟩
def cellsI (xs : List Int) : List Value := xs.flatMap cellI
def cellsS (xs : List ByteArray) : List Value := xs.flatMap cellS
theorem cellsI_snoc (xs : List Int) (x : Int) : cellsI (xs ++ [x]) = cellsI xs ++ cellI x := by simp [cellsI]
theorem cellsS_snoc (xs : List ByteArray) (x : ByteArray) : cellsS (xs ++ [x]) = cellsS xs ++ cellS x := by simp [cellsS]
theorem take_map_snoc {α β : Type} (f : α → β) (d : α) (xs : List α) (j : Nat) (h : j < xs.length) : (xs.take (j + 1)).map f = (xs.take j).map f ++ [f (xs.getD j d)] := by
  rw [List.take_succ_eq_append_getElem h, List.map_append]
  simp [List.getD, List.getElem?_eq_getElem h]

/-- the value base + lane, as the plain answer makes it -/
def vsum (base : Int) (x : Nat) : Int := wrap64 (IntKind.u64.wrap (IntKind.u64.wrap base + (x : Int)))
def fits (base : Int) (ls : List Nat) : Bool := ls.all fun x => decide (x ≤ roomN base)
def sumsL (base : Int) (ls : List Nat) : List Int := if fits base ls = true then ls.map (vsum base) else []
theorem lanesV_lt (wd k p : Nat) (xs : List Nat) : ∀ x ∈ lanesV wd k p xs, x < 18446744073709551616 := by
  intro x hx
  unfold lanesV at hx
  split at hx
  · rename_i h
    have hw : wd ≤ 64 := by
      unfold lanesOk okPack okLim at h; simp only [Bool.and_eq_true, decide_eq_true_eq] at h; omega
    have h1 := L.lanesL_lt wd k _ x hx
    have h2 := pow_le_64 hw
    omega
  · cases hx
theorem lanesV_len (wd k p : Nat) (xs : List Nat) : (lanesV wd k p xs).length ≤ 65536 := by
  unfold lanesV
  split
  · rename_i h
    rw [L.lanesL_length]
    unfold lanesOk okPack okLim at h; simp only [Bool.and_eq_true, decide_eq_true_eq] at h; omega
  · simp

set_option maxHeartbeats 4000000 in
theorem sumsAt_any (v : Value) (xs : List Nat) (p wd k : Nat) (base : Int) (w : World) (hx : Rd w v xs.length 1 (u8s xs)) (hb : ∀ x ∈ xs, x < 256) (hl : xs.length ≤ 1048576) (hp : p ≤ 1099511627776)
    (hb1 : -9223372036854775808 ≤ base) (hb2 : base ≤ 9223372036854775807) :
    Calls Tryz.prog 49 #[v, .int .i64 p, .int .i64 wd, .int .i64 k, .int .i64 base] w fun e w' =>
      ∃ u, e = .returned (.tuple #[u, .bool (fits base (lanesV wd k p xs) && lanesOk wd k p xs)]) ∧
        w'.ownsRow w.heap.size 38 3 u (sumsL base (lanesV wd k p xs)).length (cellsI (sumsL base (lanesV wd k p xs))) ∧ Below w.heap.size w w' := by
  have HL := hid (lanesAt_any v xs p wd k w hx hb hl hp)
  have hlv := lanesV_lt wd k p xs
  have hll := lanesV_len wd k p xs
  obtain ⟨A, ca, rfl, _, _, _⟩ := hx.form
  generalize lanesV wd k p xs = ls at *
  generalize lanesOk wd k p xs = ok at *
  have hroom := room_u64 base hb1 hb2
  have HF : Hid (sumsL base ls = if fits base ls = true then ls.map (vsum base) else []) := hid rfl
  have HFF : Hid (∀ j, j < ls.length → ¬ ls.getD j 0 ≤ roomN base → fits base ls = false) := by
    refine hid fun j hj h => ?_
    rw [← Bool.not_eq_true]
    intro hf
    simp only [fits, List.all_eq_true, decide_eq_true_eq] at hf
    exact h (hf _ (by simp [List.getD, List.getElem?_eq_getElem hj]))
  have HFT : Hid ((∀ j, j < ls.length → ls.getD j 0 ≤ roomN base) → fits base ls = true) := by
    refine hid fun h => ?_
    simp only [fits, List.all_eq_true, decide_eq_true_eq]
    intro x hx
    obtain ⟨t, ht, rfl⟩ := List.getElem_of_mem hx
    have := h t ht
    simpa [List.getD, List.getElem?_eq_getElem ht] using this
  generalize roomN base = rm at *
  generalize fits base ls = F at *
  generalize sumsL base ls = SL at *
  have HSNOC := hid (fun j h => take_map_snoc (vsum base) 0 ls j h)
  obtain ⟨B, hB⟩ : ∃ B, w.heap.size = B := ⟨_, rfl⟩
  have HBE := hid hB
  rw [hB]
  have HLV := hid hlv
  clear hx hb hB hlv
  go_enter Tryz.func49, Tryz.ntmps49
  go_wp2_with fail
  refine HL.out.mono ?_
  rintro e w1 ⟨u, rfl, ho, hb1'⟩
  have hf := owns_rd ho
  obtain ⟨A1, c1, rfl, _, _, hA1⟩ := hf.form
  have HRD := hid hf
  have HB1 := hid hb1'
  clear ho hf hb1' HL hA1
  go_wp2
  go_loopw [14, 27] (fun u i wr => ∃ j : Nat, j ≤ ls.length ∧ i = .int .i64 j ∧ wr.ownsRow w1.heap.size 38 3 u j (cellsI ((ls.take j).map (vsum base))) ∧ Below w1.heap.size w1 wr ∧ Hid (∀ t, t < j → ls.getD t 0 ≤ rm)) (fun _ i _ => ls.length - (intOf i).toNat)
  case atStart => exact ⟨0, by omega, rfl, by simpa [cellsI] using World.ownsRow_nil _ _ _ _, brefl w1, hid (fun t h => absurd h (Nat.not_lt_zero t))⟩
  case round =>
    obtain ⟨j, hj, rfl, hown, hbw, hall⟩ := hrel
    have HOWN := hid hown
    obtain ⟨A2, c2, rfl⟩ := owns3_form hown
    clear hown
    by_cases hlt : j < ls.length
    · obtain ⟨A3, c3, he, _, _, hA3⟩ := (HRD.out.mono hbw).form
      cases he
      obtain ⟨b, o, rfl, hs⟩ := hA3 (by omega)
      have c1' := hs.word j hlt
      have hx64 := HLV.out (ls.getD j 0) (by simp [List.getD, List.getElem?_eq_getElem hlt])
      have HST := hid (HSNOC.out j hlt)
      have HBAD := hid (HFF.out j hlt)
      have HGOOD : Hid (ls.getD j 0 ≤ rm → ∀ t, t < j + 1 → ls.getD t 0 ≤ rm) := by
        refine hid fun h t ht => ?_
        by_cases htj : t = j
        · subst htj; exact h
        · exact hall.out t (by omega)
      have hBw : w1.heap.size ≤ wr.heap.size := hbw.size
      have HVS : Hid (vsum base (ls.getD j 0) = wrap64 (IntKind.u64.wrap (IntKind.u64.wrap base + ((ls.getD j 0 : Nat) : Int)))) := hid rfl
      clear hs hA3 hall
      generalize ls.getD j 0 = x at *
      by_cases hxr : x ≤ rm
      · have hxi : ¬ (x : Int) > (rm : Int) := by omega
        go_wp2_with (at_builtin; refine wpList_append3 rfl (.tmp 36) (.tmp 43) rfl 38 [.bool false, .int .i64 0, .string ByteArray.empty] 32 Tryz.underlying26 Tryz.infoCell rfl rfl rfl HOWN.out hBw (by intro u hu; simp at hu; rcases hu with rfl | rfl | rfl <;> rfl) (by unfold maxLen; omega) (by omega) ?_; intro v' w' ho hb3)
        go_roundw
        case rel =>
          refine ⟨j + 1, by omega, by go_num, ?_, hbw.trans hb3, hid (HGOOD.out hxr)⟩
          rw [HST.out, cellsI_snoc, HVS.out]
          exact ho
        case measure => simp [intOf]; omega
      · have hxi : (x : Int) > (rm : Int) := by omega
        have hff := HBAD.out hxr
        go_wp2
        go_ret2
        have hsl := HF.out
        rw [hff, if_neg (by simp)] at hsl
        rw [hff, hsl]
        exact ⟨_, by rw [Bool.false_and]; rfl, World.ownsRow_nil _ _ _ _, by rw [← HBE.out]; exact bthen HB1.out hbw⟩
    · obtain rfl : j = ls.length := by omega
      have hft := HFT.out hall.out
      go_wp2
      go_ret2
      have hsl := HF.out
      rw [hft, if_pos rfl] at hsl
      rw [hft, hsl]
      refine ⟨_, by rw [Bool.true_and]; rfl, ?_, by rw [← HBE.out]; exact bthen HB1.out hbw⟩
      have := HOWN.out
      rw [List.take_length] at this
      rw [List.length_map]
      exact owns3_mono this (by have := HBE.out; have := HB1.out.size; omega)
end Go.Proofs.YtdlkdiaobbakiaaGreatDoor
