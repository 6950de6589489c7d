/- The plain answer: Gather. -/
import Derived.Test.YtdlkdiaobbakiaaGreatDoorRefD
import Derived.Test.YtdlkdiaobbakiaaGreatDoorCodec
import Derived.Test.YtdlkdiaobbakiaaGreatDoorLayB
set_option linter.unusedVariables false
set_option linter.unusedSimpArgs false
set_option linter.unnecessarySimpa false
set_option maxRecDepth 100000
namespace Go.Proofs.YtdlkdiaobbakiaaGreatDoor
open Go.RowKit

def rgCode (k rows : Int) (xs : List Nat) (ps : List Int) : Int := if (isKind k && isRows rows && arePl ps rows) = true then (if rOk k.toNat rows.toNat xs = true then 0 else 1) else 5
def rG (kd rows : Nat) (xs : List Nat) (ps : List Int) : List Value :=
  cellsUp (fun i => cA (rWs rows xs) (ps.getD i 0).toNat) (fun i => cB (rWs rows xs) (rPay kd rows xs).2 (ps.getD i 0).toNat) (fun i => cC (rWs rows xs) (rPay kd rows xs).2 (ps.getD i 0).toNat) ps.length
def rgCells (k rows : Int) (xs : List Nat) (ps : List Int) : List Value := if rgCode k rows xs ps = 0 then rG k.toNat rows.toNat xs ps else []
def rgLen (k rows : Int) (xs : List Nat) (ps : List Int) : Nat := if rgCode k rows xs ps = 0 then ps.length else 0
theorem Rd.atI {w : World} {D : Option Addr} {n m cd : Nat} {xs : List Int} (h : Rd w (.slice D n cd) m 1 (i64s xs)) (h0 : 0 < m) : ∃ b o, D = some ⟨b, o, none⟩ ∧
    ∀ k, k < xs.length → w.cell? ⟨b, o + k, none⟩ = some (.int .i64 (xs.getD k 0)) := by
  rcases h.2 with ⟨_, rfl⟩ | ⟨b, o, cap', he, _, _, hs⟩
  · exact absurd h0 (Nat.lt_irrefl 0)
  · injection he with e1 e2 e3
    exact ⟨b, o, e1, fun k hk => hs.int k hk⟩
theorem Rd.atC {w : World} {D : Option Addr} {n m cd : Nat} {A : Nat → Bool} {B : Nat → Int} {C : Nat → ByteArray} (h : Rd w (.slice D n cd) m 3 (cellsUp A B C m)) (h0 : 0 < m) : ∃ b o, D = some ⟨b, o, none⟩ ∧
    ∀ k, k < m → w.cell? ⟨b, o + k * 3, none⟩ = some (.bool (A k)) ∧ w.cell? ⟨b, o + k * 3 + 1, none⟩ = some (.int .i64 (B k)) ∧ w.cell? ⟨b, o + k * 3 + 2, none⟩ = some (.string (C k)) := by
  rcases h.2 with ⟨_, rfl⟩ | ⟨b, o, cap', he, _, _, hs⟩
  · exact absurd h0 (Nat.lt_irrefl 0)
  · injection he with e1 e2 e3
    refine ⟨b, o, e1, fun k hk => ?_⟩
    obtain ⟨g0, g1, g2⟩ := cellsUp_get A B C m k hk
    exact ⟨hs _ _ g0, hs _ _ g1, hs _ _ g2⟩
theorem rgCode_no (k rows : Int) (xs : List Nat) (ps : List Int) (h : (isKind k && isRows rows && arePl ps rows) = false) : rgCode k rows xs ps = 5 ∧ rgCells k rows xs ps = [] ∧ rgLen k rows xs ps = 0 := by
  have e1 : rgCode k rows xs ps = 5 := by unfold rgCode; rw [h]; simp
  refine ⟨e1, ?_, ?_⟩
  · unfold rgCells; rw [e1, if_neg (by decide)]
  · unfold rgLen; rw [e1, if_neg (by decide)]
set_option maxHeartbeats 16000000 in
theorem refGather_any (k rows : Int) (v u : Value) (xs : List Nat) (ps : List Int) (w : World) (hx : Rd w v xs.length 1 (u8s xs)) (hu : Rd w u ps.length 1 (i64s ps)) (hb : ∀ x ∈ xs, x < 256) (hl : xs.length ≤ 1048576) (hpl : ps.length ≤ 1048576) :
    Calls Tryz.prog 11 #[.int .i64 k, .int .i64 rows, v, u] w fun e w' => ∃ t, e = .returned (.tuple #[t, .int .i64 (rgCode k rows xs ps)]) ∧
      w'.ownsRow w.heap.size 38 3 t (rgLen k rows xs ps) (rgCells k rows xs ps) ∧ Below w.heap.size w w' := by
  have HK := hid (kindOK_any k w)
  have HDE := hid (fun (w2 : World) (h : Below w.heap.size w w2) => refDecode_any k rows v xs w2 (hx.mono h) hb hl)
  have HPS := hid hu
  have hno := rgCode_no k rows xs ps
  have HYES : Hid ((isKind k && isRows rows && arePl ps rows) = true → rgCode k rows xs ps = refCode k rows xs ∧ (refCode k rows xs ≠ 0 → rgLen k rows xs ps = 0 ∧ rgCells k rows xs ps = []) ∧ (refCode k rows xs = 0 → rgLen k rows xs ps = ps.length ∧ rgCells k rows xs ps = rG k.toNat rows.toNat xs ps ∧ refLen k rows xs = rows.toNat ∧ refCells k rows xs = rCells k.toNat rows.toNat xs)) := hid (fun h => by
    have e1 : rgCode k rows xs ps = refCode k rows xs := by
      unfold rgCode refCode; rw [if_pos h]
      simp only [Bool.and_eq_true] at h
      have hh : (isKind k && isRows rows) = true := by rw [Bool.and_eq_true]; exact h.1
      rw [if_pos hh]
    refine ⟨e1, fun h0 => ?_, fun h0 => ?_⟩
    · unfold rgLen rgCells; rw [e1, if_neg h0, if_neg h0]; exact ⟨rfl, rfl⟩
    · unfold rgLen rgCells refLen refCells; rw [e1, if_pos h0, if_pos h0, if_pos h0, if_pos h0]; exact ⟨rfl, rfl, rfl, rfl⟩)
  have hap : arePl ps rows = (decide (ps.length ≤ 65536) && ps.all fun p => decide (0 ≤ p ∧ p < rows)) := rfl
  have hir : isRows rows = decide (0 ≤ rows ∧ rows ≤ 65536) := rfl
  have HCELLS : Hid (rCells k.toNat rows.toNat xs = cellsUp (cA (rWs rows.toNat xs)) (cB (rWs rows.toNat xs) (rPay k.toNat rows.toNat xs).2) (cC (rWs rows.toNat xs) (rPay k.toNat rows.toNat xs).2) rows.toNat) := hid rfl
  have HG : Hid (rG k.toNat rows.toNat xs ps = cellsUp (fun i => cA (rWs rows.toNat xs) (ps.getD i 0).toNat) (fun i => cB (rWs rows.toNat xs) (rPay k.toNat rows.toNat xs).2 (ps.getD i 0).toNat) (fun i => cC (rWs rows.toNat xs) (rPay k.toNat rows.toNat xs).2 (ps.getD i 0).toNat) ps.length) := hid rfl
  obtain ⟨A, ca, rfl, _, _, _⟩ := hx.form
  obtain ⟨A1, ca1, rfl, _, _, _⟩ := hu.form
  generalize cA (rWs rows.toNat xs) = FA at *
  generalize cB (rWs rows.toNat xs) (rPay k.toNat rows.toNat xs).2 = FB at *
  generalize cC (rWs rows.toNat xs) (rPay k.toNat rows.toNat xs).2 = FC at *
  generalize rG k.toNat rows.toNat xs ps = GG at *
  generalize rCells k.toNat rows.toNat xs = RR at *
  generalize rgCode k rows xs ps = RC at *
  generalize rgCells k rows xs ps = RX at *
  generalize rgLen k rows xs ps = RL at *
  generalize refCode k rows xs = DC at *
  generalize refCells k rows xs = DX at *
  generalize refLen k rows xs = DL at *
  clear hx hu hb
  obtain ⟨bk, hbk⟩ : ∃ bk, isKind k = bk := ⟨_, rfl⟩
  rw [hbk] at HK
  have hne : ∀ {p : Prop} [Decidable p], ¬ p → decide p = false := fun h => decide_eq_false h
  cases bk
  · obtain ⟨r1, r2, r3⟩ := hno (by rw [hbk]; simp)
    rw [r1, r2, r3]
    clear hap hir hbk hno r1 r2 r3
    go_enter Tryz.func11, Tryz.ntmps11
    go_wp2_with (go_at_call 22; refine HK.out.mono ?_; rintro e w1 ⟨rfl, hw⟩; replace hw := hw.symm; subst hw)
    go_ret2
    exact ⟨_, rfl, World.ownsRow_nil _ _ _ _, brefl w⟩
  by_cases h1 : rows < 0
  · obtain ⟨r1, r2, r3⟩ := hno (by rw [hir, decide_eq_false (by omega)]; simp)
    rw [r1, r2, r3]
    clear hap hir hbk hno r1 r2 r3
    go_enter Tryz.func11, Tryz.ntmps11
    go_wp2_with (go_at_call 22; refine HK.out.mono ?_; rintro e w1 ⟨rfl, hw⟩; replace hw := hw.symm; subst hw)
    go_ret2
    exact ⟨_, rfl, World.ownsRow_nil _ _ _ _, brefl w⟩
  by_cases h2 : rows > 65536
  · obtain ⟨r1, r2, r3⟩ := hno (by rw [hir, decide_eq_false (by omega)]; simp)
    rw [r1, r2, r3]
    clear hap hir hbk hno r1 r2 r3
    go_enter Tryz.func11, Tryz.ntmps11
    go_wp2_with (go_at_call 22; refine HK.out.mono ?_; rintro e w1 ⟨rfl, hw⟩; replace hw := hw.symm; subst hw)
    go_ret2
    exact ⟨_, rfl, World.ownsRow_nil _ _ _ _, brefl w⟩
  by_cases h3 : ps.length > 65536
  · obtain ⟨r1, r2, r3⟩ := hno (by rw [hap, decide_eq_false (by omega)]; simp)
    rw [r1, r2, r3]
    have h3' : (ps.length : Int) > 65536 := by omega
    clear hap hir hbk hno r1 r2 r3 h3
    go_enter Tryz.func11, Tryz.ntmps11
    go_wp2_with (go_at_call 22; refine HK.out.mono ?_; rintro e w1 ⟨rfl, hw⟩; replace hw := hw.symm; subst hw)
    go_ret2
    exact ⟨_, rfl, World.ownsRow_nil _ _ _ _, brefl w⟩
  have h3' : ¬ (ps.length : Int) > 65536 := by omega
  have hps : ps.length ≤ 65536 := by omega
  have HAP : Hid ((isKind k && isRows rows && arePl ps rows) = ps.all fun p => decide (0 ≤ p ∧ p < rows)) := hid (by
    rw [hbk, hir, hap, decide_eq_true (by omega : 0 ≤ rows ∧ rows ≤ 65536), decide_eq_true hps]; simp)
  have HNO := hid hno
  rw [HAP.out] at HNO HYES
  clear hap hir hbk hno h3
  obtain ⟨n, hnr⟩ : ∃ n, rows.toNat = n := ⟨_, rfl⟩
  have hnr2 : (n : Int) = rows := by omega
  have HNR := hid hnr2
  rw [hnr] at HYES HCELLS
  have HBADP : Hid (∀ t, t < ps.length → ¬ (0 ≤ ps.getD t 0 ∧ ps.getD t 0 < rows) → (ps.all fun p => decide (0 ≤ p ∧ p < rows)) = false) := hid (fun t ht h => by
    rw [← Bool.not_eq_true]
    intro h2
    simp only [List.all_eq_true, decide_eq_true_eq] at h2
    exact h (h2 _ (by simp [List.getD, List.getElem?_eq_getElem ht])))
  have HGOODP : Hid ((∀ t, t < ps.length → 0 ≤ ps.getD t 0 ∧ ps.getD t 0 < rows) → (ps.all fun p => decide (0 ≤ p ∧ p < rows)) = true) := hid (fun h => by
    simp only [List.all_eq_true, decide_eq_true_eq]
    intro x hx
    obtain ⟨t, ht, rfl⟩ := List.getElem_of_mem hx
    have := h t ht
    simpa [List.getD, List.getElem?_eq_getElem ht] using this)
  clear hnr hnr2 hne
  generalize (ps.all fun p => decide (0 ≤ p ∧ p < rows)) = AL at *
  go_enter Tryz.func11, Tryz.ntmps11
  go_wp2_with (go_at_call 22; refine HK.out.mono ?_; rintro e w1 ⟨rfl, hw⟩; replace hw := hw.symm; subst hw)
  go_loop [35] (fun i => ∃ t : Nat, t ≤ ps.length ∧ i = .int .i64 t ∧ Hid (∀ z, z < t → 0 ≤ ps.getD z 0 ∧ ps.getD z 0 < rows)) (fun i => ps.length - (intOf i).toNat)
  case atStart => exact ⟨0, by omega, rfl, hid (fun z h => absurd h (Nat.not_lt_zero z))⟩
  case round =>
    obtain ⟨t, ht, rfl, HALL⟩ := hrel
    by_cases hlt : t < ps.length
    · obtain ⟨b, o, rfl, hs⟩ := HPS.out.atI (by omega)
      have c1 := hs t hlt
      have HNX : Hid (0 ≤ ps.getD t 0 ∧ ps.getD t 0 < rows → ∀ z, z < t + 1 → 0 ≤ ps.getD z 0 ∧ ps.getD z 0 < rows) := hid (fun h z hz => by
        by_cases hzt : z = t
        · subst hzt; exact h
        · exact HALL.out z (by omega))
      have HBP := hid (HBADP.out t hlt)
      clear hs
      generalize ps.getD t 0 = p at *
      by_cases hp0 : p < 0
      · have HR := hid (HNO.out (HBP.out (by omega)))
        go_wp2_with fail
        go_ret2
        rw [HR.out.1, HR.out.2.1, HR.out.2.2]
        exact ⟨_, rfl, World.ownsRow_nil _ _ _ _, brefl w⟩
      by_cases hp1 : p ≥ rows
      · have HR := hid (HNO.out (HBP.out (by omega)))
        go_wp2_with fail
        go_ret2
        rw [HR.out.1, HR.out.2.1, HR.out.2.2]
        exact ⟨_, rfl, World.ownsRow_nil _ _ _ _, brefl w⟩
      have HN2 := hid (HNX.out (by omega))
      go_wp2_with fail
      go_round
      case rel => exact ⟨t + 1, by omega, by go_num, HN2⟩
      case measure => simp [intOf]; omega
    · obtain rfl : t = ps.length := by omega
      have HR := hid (HYES.out (HGOODP.out HALL.out))
      have HDW := hid (HDE.out w (brefl w))
      clear HNO HYES HBADP HGOODP HDE
      by_cases hdc : DC = 0
      rotate_left
      · have HRR := hid (HR.out.2.1 hdc)
        have hne0 : (DC != 0) = true := by simp [hdc]
        have HRC := hid HR.out.1
        go_wp2_with (go_at_call 8; refine HDW.out.mono ?_; rintro e w1 ⟨u, rfl, ho1, hb1⟩; have HB1 := hid hb1; clear ho1 hb1)
        go_ret2
        rw [HRC.out, HRR.out.1, HRR.out.2]
        exact ⟨_, rfl, World.ownsRow_nil _ _ _ _, HB1.out⟩
      have HRR := hid (HR.out.2.2 hdc)
      have HRC := hid HR.out.1
      rw [HRR.out.2.2.1, HRR.out.2.2.2, HCELLS.out] at HDW
      clear HR HCELLS
      subst hdc
      go_wp2_with (go_at_call 8; refine HDW.out.mono ?_; rintro e w1 ⟨u, rfl, ho1, hb1⟩; have HB1 := hid hb1; have HRD := hid (owns3_rd ho1); obtain ⟨D, cD, rfl⟩ := owns3_form ho1; clear ho1 hb1)
      have hsz1 := HB1.out.size
      have HPS1 := hid (HPS.out.mono HB1.out)
      go_loopw [14, 59] (fun s i wz => ∃ t : Nat, t ≤ ps.length ∧ i = .int .i64 t ∧ Hid (wz.ownsRow w1.heap.size 38 3 s t (cellsUp (fun i => FA (ps.getD i 0).toNat) (fun i => FB (ps.getD i 0).toNat) (fun i => FC (ps.getD i 0).toNat) t)) ∧ Hid (Below w1.heap.size w1 wz)) (fun _ i _ => ps.length - (intOf i).toNat)
      case atStart => exact ⟨0, by omega, rfl, hid ⟨by simp [cellsUp], .inl ⟨rfl, rfl⟩⟩, hid (brefl w1)⟩
      case round =>
        obtain ⟨t, ht, rfl, HOWN, HBW⟩ := hrel
        obtain ⟨A2, c2, rfl⟩ := owns3_form HOWN.out
        have hszw := HBW.out.size
        by_cases hlt : t < ps.length
        · have HST : Hid (cellsUp (fun i => FA (ps.getD i 0).toNat) (fun i => FB (ps.getD i 0).toNat) (fun i => FC (ps.getD i 0).toNat) (t + 1) = cellsUp (fun i => FA (ps.getD i 0).toNat) (fun i => FB (ps.getD i 0).toNat) (fun i => FC (ps.getD i 0).toNat) t ++ [.bool (FA (ps.getD t 0).toNat), .int .i64 (FB (ps.getD t 0).toNat), .string (FC (ps.getD t 0).toNat)]) := hid rfl
          obtain ⟨pb, po, hAA, hs⟩ := (HPS1.out.mono HBW.out).atI (by omega)
          subst hAA
          have e1 := hs t hlt
          have hall := HALL.out t hlt
          have hq1 : (ps.getD t 0).toNat < n := by have := HNR.out; omega
          have hq2 : (((ps.getD t 0).toNat : Nat) : Int) = ps.getD t 0 := by omega
          obtain ⟨b, o, hDD, hcells⟩ := (HRD.out.mono HBW.out).atC (by omega)
          subst hDD
          obtain ⟨l0, l1, l2⟩ := hcells _ hq1
          rw [← hq2] at e1
          clear hcells hs hall hq2
          generalize (ps.getD t 0).toNat = q at *
          have i1 : (q : Int) < (n : Int) := by omega
          generalize FA q = xa at *
          generalize FB q = xb at *
          generalize FC q = xc at *
          go_wp2_with (at_builtin; refine wpList_append3 rfl (.tmp 63) (.tmp 68) rfl 38 [.bool false, .int .i64 0, .string ByteArray.empty] 32 Tryz.underlying26 Tryz.infoCell rfl rfl rfl HOWN.out hszw (by intro u hu; simp at hu; rcases hu with rfl | rfl | rfl <;> rfl) (by unfold maxLen; omega) (by omega) ?_; intro v' w' ho hb3)
          go_roundw
          case rel =>
            have HOC2 := hid ho
            rw [← HST.out] at HOC2
            exact ⟨t + 1, by omega, by go_num, HOC2, hid (Below.trans HBW.out hb3)⟩
          case measure => simp [intOf]; omega
        · obtain rfl : t = ps.length := by omega
          go_wp2_with fail
          go_ret2
          rw [HRC.out, HRR.out.1, HRR.out.2.1, HG.out]
          exact ⟨_, rfl, owns3_mono HOWN.out hsz1, Below.then' HB1.out HBW.out hsz1⟩
end Go.Proofs.YtdlkdiaobbakiaaGreatDoor
