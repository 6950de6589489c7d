/- Package scan: Kleene. -/
import Derived.Test.YtinkbgnhigpkeaaDoorKlm
set_option linter.unusedVariables false
set_option linter.unusedSimpArgs false
set_option linter.unnecessarySimpa false
set_option maxRecDepth 20000
namespace Go.Proofs.YtinkbgnhigpkeaaDoor
open Go.RowKit

def opsN (op : Int) : Int := if op = 12 then 1 else if op = 10 ∨ op = 11 then 2 else 0
set_option maxHeartbeats 1000000 in
theorem operands_any (op : Int) (w : World) : Calls Tryd.prog 25 #[.int .i64 op] w fun e w' => e = .returned (.int .i64 (opsN op)) ∧ w' = w := by
  go_enter Tryd.func25, Tryd.ntmps25
  unfold opsN
  by_cases h12 : op = 12
  · subst h12
    go_wp2_with fail
    go_ret
    exact ⟨rfl, rfl⟩
  · have e12 : (op == 12) = false := by simp [h12]
    by_cases h10 : op = 10
    · subst h10
      go_wp2_with fail
      go_ret
      exact ⟨rfl, rfl⟩
    · have e10 : (op == 10) = false := by simp [h10]
      by_cases h11 : op = 11
      · subst h11
        go_wp2_with fail
        go_ret
        exact ⟨rfl, rfl⟩
      · have e11 : (op == 11) = false := by simp [h11]
        go_wp2_with fail
        go_ret
        simp [h12, h10, h11]
theorem rows3d {w : World} {X Y Z : Array Value} {eX eY eZ : TypeId} {w3 : World} (e : w3 = ((w.alloc (.cells X eX)).alloc (.cells Y eY)).alloc (.cells Z eZ)) :
    Row w3 w.heap.size eX X.toList ∧ Row w3 (w.heap.size + 1) eY Y.toList ∧ Row w3 (w.heap.size + 1 + 1) eZ Z.toList ∧ Below w.heap.size w w3 ∧ w3.heap.size = w.heap.size + 1 + 1 + 1 := by
  subst e
  obtain ⟨r1, r2, bl⟩ := rows2d (u := w) (X := X) (Y := Y) (eX := eX) (eY := eY)
  have nw : ∀ (u : World) (D : Array Value) (e : TypeId), Row (u.alloc (.cells D e)) u.heap.size e D.toList := fun u D e => by unfold Row; rw [heap_alloc_new]
  have al : ∀ (u : World) (o : Obj), Below u.heap.size u (u.alloc o) := fun u o => (Below.refl _ _).alloc (Nat.le_refl _) _
  have r3 := nw ((w.alloc (.cells X eX)).alloc (.cells Y eY)) Z eZ
  have sz : ((w.alloc (.cells X eX)).alloc (.cells Y eY)).heap.size = w.heap.size + 1 + 1 := by simp
  rw [sz] at r3
  exact ⟨r1.mono (al _ _), r2.mono (al _ _), r3, Below.then' bl (al _ _) (by rw [sz]; omega), by simp⟩
theorem owns_nil {w : World} {B sz : Nat} {e : TypeId} : w.ownsRow B e sz (.slice none 0 0) 0 [] := ⟨by simp, .inl ⟨rfl, rfl⟩⟩
def KleeneSays (op n : Int) (aT aU bT bU : List Nat) (w : World) (e : Ending) (w' : World) : Prop := ∃ tv uv, e = .returned (.tuple #[.agg #[tv, uv], .bool (kleOk op n aT aU bT bU)]) ∧
  w'.ownsRow w.heap.size 55 1 tv (kleV 2 op n aT aU bT bU).length (u64s (kleV 2 op n aT aU bT bU)) ∧ w'.ownsRow w.heap.size 55 1 uv (kleV 1 op n aT aU bT bU).length (u64s (kleV 1 op n aT aU bT bU)) ∧
  (∀ k, tv.ownBlock = some k → uv.ownBlock ≠ some k) ∧ Below w.heap.size w w'
theorem kle_off {op n : Int} {aT aU bT bU : List Nat} (h : kleOk op n aT aU bT bU = false) (v : Int) : kleV v op n aT aU bT bU = [] := by unfold kleV; rw [h]; rfl

theorem kleV_on {op n : Int} {aT aU bT bU : List Nat} (h : kleOk op n aT aU bT bU = true) (v : Int) : kleV v op n aT aU bT bU = bmL ((List.range n.toNat).map (kleF op v aT aU bT bU)) := by unfold kleV; rw [if_pos h]
theorem kle_rows {op n : Int} {aT aU bT bU XT XU : List Nat} {w w' : World} {g h q : Nat} (hk : kleOk op n aT aU bT bU = true) (hg : w.heap.size ≤ g) (hh : w.heap.size ≤ h) (hgh : g ≠ h) (hq : q ≤ maxLen) (eT : XT = kleV 2 op n aT aU bT bU) (eU : XU = kleV 1 op n aT aU bT bU)
    (lT : XT.length = q) (lU : XU.length = q) (hrg : Row w' g 55 (u64s XT)) (hrh : Row w' h 55 (u64s XU)) (hb : Below w.heap.size w w') :
    KleeneSays op n aT aU bT bU w (.returned (.tuple #[.agg #[.slice (some ⟨g, 0, none⟩) q q, .slice (some ⟨h, 0, none⟩) q q], .bool true])) w' := by
  refine ⟨_, _, by rw [hk], ?_, ?_, ?_, hb⟩
  · rw [← eT, lT]; exact hrg.owns hg (by rw [u64s_length]; exact lT) hq
  · rw [← eU, lU]; exact hrh.owns hh (by rw [u64s_length]; exact lU) hq
  · intro k hk' hk2
    simp [Value.ownBlock] at hk' hk2
    omega
set_option maxHeartbeats 4000000 in
theorem Kleene_any (op n : Int) (av au bv bu : Value) (aT aU bT bU : List Nat) (w : World) (hT : Tab w) (h1 : Rd w av aT.length 1 (u64s aT)) (h2 : Rd w au aU.length 1 (u64s aU)) (h3 : Rd w bv bT.length 1 (u64s bT)) (h4 : Rd w bu bU.length 1 (u64s bU))
    (v1 : ∀ x ∈ aT, x < 18446744073709551616) (v2 : ∀ x ∈ aU, x < 18446744073709551616) (v3 : ∀ x ∈ bT, x < 18446744073709551616) (v4 : ∀ x ∈ bU, x < 18446744073709551616)
    (l1 : aT.length ≤ maxLen) (l2 : aU.length ≤ maxLen) (l3 : bT.length ≤ maxLen) (l4 : bU.length ≤ maxLen) :
    Calls Tryd.prog 7 #[.int .i64 op, .int .i64 n, .agg #[av, au], .agg #[bv, bu]] w fun e w' => KleeneSays op n aT aU bT bU w e w' := by
  have H1 := hid h1; have H2 := hid h2; have H3 := hid h3; have H4 := hid h4
  have V1 := hid v1; have V2 := hid v2; have V3 := hid v3; have V4 := hid v4
  have HT := hid hT
  have hTl := hT.lt
  have HOP := hid (fun w2 : World => operands_any op w2)
  have HPA := hid (fun (w2 : World) (hb : Below w.heap.size w w2) => isPair_any av au aT aU n w2 (h1.mono hb) (h2.mono hb) v1 v2 l1 l2)
  have HPB := hid (fun (w2 : World) (hb : Below w.heap.size w w2) => isPair_any bv bu bT bU n w2 (h3.mono hb) (h4.mono hb) v3 v4 l3 l4)
  obtain ⟨A1, c1, rfl, _, _, _⟩ := h1.form
  obtain ⟨A2, c2, rfl, _, _, _⟩ := h2.form
  obtain ⟨A3, c3, rfl, _, _, _⟩ := h3.form
  obtain ⟨A4, c4, rfl, _, _, _⟩ := h4.form
  have HNO : Hid (kleOk op n aT aU bT bU = false → ∀ w' : World, Below w.heap.size w w' → KleeneSays op n aT aU bT bU w (.returned (.tuple #[.agg #[.slice none 0 0, .slice none 0 0], .bool false])) w') := hid (fun hk w' hb => by
    refine ⟨_, _, by rw [hk], ?_, ?_, ?_, hb⟩
    · rw [kle_off hk]; exact owns_nil
    · rw [kle_off hk]; exact owns_nil
    · intro k hk'; simp [Value.ownBlock] at hk')
  clear h1 h2 h3 h4 v1 v2 v3 v4 hT
  go_enter Tryd.func7, Tryd.ntmps7
  go_upto_region 2 with (go_at_call 25; refine (HOP.out _).mono ?_; rintro e w1 ⟨rfl, rfl⟩)
  obtain ⟨ra, rb, rz, hbw, hsz⟩ := rows3d (w := w) (X := #[.slice A1 aT.length c1, .slice A2 aU.length c2]) (Y := #[.slice A3 bT.length c3, .slice A4 bU.length c4]) (Z := #[.slice none 0 0, .slice none 0 0]) (eX := 24) (eY := 24) (eZ := 24) rfl
  have HRA := hid ra; have HRB := hid rb; have HRZ := hid rz; have HBW := hid hbw
  clear ra rb rz hbw hsz
  generalize ((w.alloc (.cells #[.slice A1 aT.length c1, .slice A2 aU.length c2] 24)).alloc (.cells #[.slice A3 bT.length c3, .slice A4 bU.length c4] 24)).alloc (.cells #[.slice none 0 0, .slice none 0 0] 24) = w0 at *
  obtain ⟨a0, a1⟩ := cell2 HRA.out
  obtain ⟨b0, b1⟩ := cell2 HRB.out
  obtain ⟨q, hq⟩ : ∃ q, opsN op = q := ⟨_, rfl⟩
  rw [hq]
  clear HOP
  have hsz : w.heap.size ≤ w0.heap.size := HBW.out.size
  by_cases hop : op = 10 ∨ op = 11 ∨ op = 12
  rotate_left
  · have hq0 : q = 0 := by rw [← hq]; unfold opsN; rw [if_neg (by omega), if_neg (by omega)]
    subst hq0
    have HN := hid (HNO.out (by unfold kleOk; have d1 : ¬ op = 10 := by omega
                                have d2 : ¬ op = 11 := by omega
                                have d3 : ¬ op = 12 := by omega
                                simp [d1, d2, d3]))
    clear hq hop HNO
    have f0 := HRZ.out.frozen 0
    have f1 := HRZ.out.frozen 1
    obtain ⟨z0, z1⟩ := cell2 HRZ.out
    go_wp2_with fail
    have hz := (HRZ.out.set 0 (.slice none 0 0)).set 1 (.slice none 0 0)
    obtain ⟨y0, y1⟩ := cell2 hz
    refine bodyPost_ret (v := .tuple #[.agg #[.slice none 0 0, .slice none 0 0], .bool false]) ?_ rfl (HN.out _ (below_set (below_set HBW.out _ _ _ (by omega)) _ _ _ (by omega)))
    simp [results, Tryd.results7, go_sem, *]
  have hqn : (q == 0) = false := by rw [← hq]; unfold opsN; rcases hop with h | h | h <;> subst h <;> decide
  have hqt : q = if op = 12 then 1 else 2 := by rw [← hq]; unfold opsN; rcases hop with h | h | h <;> subst h <;> decide
  clear hq
  obtain ⟨pa, hpa⟩ : ∃ pa, prOk n aT aU = pa := ⟨_, rfl⟩
  rw [hpa] at HPA
  cases pa
  · have HN := hid (HNO.out (by unfold kleOk; rw [hpa]; simp))
    clear HNO hop hpa hqt
    go_wp2_with (go_at_call 26; refine (HPA.out _ HBW.out).mono ?_; rintro e w1 ⟨rfl, hb1⟩; have HRZ1 := hid (HRZ.out.mono hb1); have HBW1 := hid (Below.then' HBW.out hb1 hsz); obtain ⟨z0, z1⟩ := cell2 HRZ1.out; have f0 := HRZ1.out.frozen 0; have f1 := HRZ1.out.frozen 1; clear hb1 a0 a1 b0 b1)
    have hz := (HRZ1.out.set 0 (.slice none 0 0)).set 1 (.slice none 0 0)
    obtain ⟨y0, y1⟩ := cell2 hz
    refine bodyPost_ret (v := .tuple #[.agg #[.slice none 0 0, .slice none 0 0], .bool false]) ?_ rfl (HN.out _ (below_set (below_set HBW1.out _ _ _ (by omega)) _ _ _ (by omega)))
    simp [results, Tryd.results7, go_sem, *]
  by_cases h12 : op = 12
  · subst h12
    rw [if_pos rfl] at hqt
    subst hqt
    have hk : kleOk 12 n aT aU bT bU = true := by unfold kleOk; rw [hpa]; simp
    obtain ⟨m, rfl, hm, hpr⟩ := prOk_nat hpa
    have hnw := L.nWords_le (w := 1) (n := m) (by omega)
    have HNG := hid (fun (w2 : World) (hb : Below w.heap.size w w2) => negation_any (.slice A1 aT.length c1) (.slice A2 aU.length c2) aT aU m (L.nWords 1 m) w2 (HT.out.mono hb hTl) (by omega) (by have := H1.out.mono hb; rw [hpr.lenT] at this ⊢; exact this) (by have := H2.out.mono hb; rw [hpr.lenU] at this ⊢; exact this) V1.out V2.out)
    have HTT : Hid (cmpR 1 m 1 (wordsF (L.nWords 1 m) (negTf aT aU)) 0 = kleV 2 12 m aT aU bT bU) := hid (by rw [kleV_on hk, neg_T bT bU hpr hm V1.out V2.out]; simp)
    have HUU : Hid (wordsF (L.nWords 1 m) (negUf aU) = kleV 1 12 m aT aU bT bU) := hid (by rw [kleV_on hk, neg_U bT bU hpr hm V1.out V2.out]; simp)
    rw [HTT.out, HUU.out] at HNG
    have HLU : Hid ((kleV 1 12 m aT aU bT bU).length = L.nWords 1 m) := hid (by rw [← HUU.out, wordsF_len])
    have HK := hid hk
    clear hk hpa hpr HTT HUU HNO hop HPB
    go_wp2_with (first
      | (go_at_call 26; refine (HPA.out _ HBW.out).mono ?_; rintro e w1 ⟨rfl, hb1⟩; have HRA1 := hid (HRA.out.mono hb1); have HRZ1 := hid (HRZ.out.mono hb1); have HBW1 := hid (Below.then' HBW.out hb1 hsz); have hsz1 := HBW1.out.size; clear hb1 a0 a1 b0 b1; obtain ⟨a0, a1⟩ := cell2 HRA1.out)
      | (go_at_call 29; refine (HNG.out _ HBW1.out).mono ?_; rintro e w3 ⟨tv, h, rfl, hh, htv, hot, hrh, hb3⟩; have HRZ3 := hid (HRZ1.out.mono hb3); have HBW3 := hid (Below.then' HBW1.out hb3 hsz1); obtain ⟨z0, z1⟩ := cell2 HRZ3.out; have f0 := HRZ3.out.frozen 0; have f1 := HRZ3.out.frozen 1; have HTV := hid htv; have HOT := hid (owns_base hot hsz1); have HRH := hid hrh; obtain ⟨AT, cT, rfl, _, _, _, _⟩ := owns_form hot; have HL1 := HRZ1.out.lt; clear hb3 htv hot hrh a0 a1))
    generalize hXT : kleV 2 12 m aT aU bT bU = XT at *
    generalize hXU : kleV 1 12 m aT aU bT bU = XU at *
    have hz := (HRZ3.out.set 0 (.slice AT XT.length cT)).set 1 (.slice (some ⟨h, 0, none⟩) (L.nWords 1 m) (L.nWords 1 m))
    obtain ⟨y0, y1⟩ := cell2 hz
    refine bodyPost_ret (v := .tuple #[.agg #[.slice AT XT.length cT, .slice (some ⟨h, 0, none⟩) (L.nWords 1 m) (L.nWords 1 m)], .bool true]) ?_ rfl ⟨.slice AT XT.length cT, .slice (some ⟨h, 0, none⟩) (L.nWords 1 m) (L.nWords 1 m), by rw [HK.out], ?_, ?_, ?_, below_set (below_set HBW3.out _ _ _ (by omega)) _ _ _ (by omega)⟩
    · simp [results, Tryd.results7, go_sem, *]
    · rw [hXT]
      refine owns_keep HOT.out fun b hb => ?_
      have := HTV.out b hb
      rw [heap_setCell_other _ _ b _ (by show b ≠ w.heap.size + 1 + 1; omega), heap_setCell_other _ _ b _ (by show b ≠ w.heap.size + 1 + 1; omega)]
    · rw [hXU, HLU.out]
      refine Row.owns (((HRH.out.other _ (by show h ≠ w.heap.size + 1 + 1; omega)).other _ (by show h ≠ w.heap.size + 1 + 1; omega))) (by omega) (by rw [u64s_length]; exact HLU.out) (by unfold maxLen; omega)
    · intro k hk1 hk2
      have := HTV.out k hk1
      simp [Value.ownBlock] at hk2
      omega
  rw [if_neg h12] at hqt
  subst hqt
  obtain ⟨pb, hpb⟩ : ∃ pb, prOk n bT bU = pb := ⟨_, rfl⟩
  rw [hpb] at HPB
  cases pb
  · have HN := hid (HNO.out (by unfold kleOk; rw [hpb]; simp [h12]))
    clear HNO hop hpa hpb
    go_wp2_with (first
      | (go_at_call_of 26 (Value.agg #[.slice A1 aT.length c1, .slice A2 aU.length c2]); refine (HPA.out _ HBW.out).mono ?_; rintro e w1 ⟨rfl, hb1⟩; have HRB1 := hid (HRB.out.mono hb1); have HRZ1 := hid (HRZ.out.mono hb1); have HBW1 := hid (Below.then' HBW.out hb1 hsz); have hsz1 := HBW1.out.size; clear hb1 a0 a1 b0 b1; obtain ⟨b0, b1⟩ := cell2 HRB1.out)
      | (go_at_call 26; refine (HPB.out _ HBW1.out).mono ?_; rintro e w2 ⟨rfl, hb1⟩; have HRZ2 := hid (HRZ1.out.mono hb1); have HBW2 := hid (Below.then' HBW1.out hb1 hsz1); obtain ⟨z0, z1⟩ := cell2 HRZ2.out; have f0 := HRZ2.out.frozen 0; have f1 := HRZ2.out.frozen 1; clear hb1 b0 b1))
    have hz := (HRZ2.out.set 0 (.slice none 0 0)).set 1 (.slice none 0 0)
    obtain ⟨y0, y1⟩ := cell2 hz
    refine bodyPost_ret (v := .tuple #[.agg #[.slice none 0 0, .slice none 0 0], .bool false]) ?_ rfl (HN.out _ (below_set (below_set HBW2.out _ _ _ (by omega)) _ _ _ (by omega)))
    simp [results, Tryd.results7, go_sem, *]
  by_cases h10 : op = 10
  · subst h10
    have hk : kleOk 10 n aT aU bT bU = true := by unfold kleOk; rw [hpa, hpb]; simp
    obtain ⟨m, rfl, hm, hpr⟩ := prOk_nat hpa
    obtain ⟨m', hmm, _, hpr2⟩ := prOk_nat hpb
    obtain rfl : m' = m := by omega
    have hnw := L.nWords_le (w := 1) (n := m') (by omega)
    have HFN := hid (fun (w2 : World) (hb : Below w.heap.size w w2) => both_any (.slice A1 aT.length c1) (.slice A2 aU.length c2) (.slice A3 bT.length c3) (.slice A4 bU.length c4) aT aU bT bU (L.nWords 1 m') w2 (by omega) (by have := H1.out.mono hb; rw [hpr.lenT] at this ⊢; exact this) (by have := H2.out.mono hb; rw [hpr.lenU] at this ⊢; exact this) (by have := H3.out.mono hb; rw [hpr2.lenT] at this ⊢; exact this) (by have := H4.out.mono hb; rw [hpr2.lenU] at this ⊢; exact this) V1.out V2.out V3.out V4.out)
    have HEND : Hid (∀ (w' : World) (g h : Nat), w.heap.size ≤ g → w.heap.size ≤ h → g ≠ h → Row w' g 55 (u64s (wordsF (L.nWords 1 m') (bothTf aT bT))) → Row w' h 55 (u64s (wordsF (L.nWords 1 m') (bothUf aT aU bT bU))) → Below w.heap.size w w' →
        KleeneSays 10 m' aT aU bT bU w (.returned (.tuple #[.agg #[.slice (some ⟨g, 0, none⟩) (L.nWords 1 m') (L.nWords 1 m'), .slice (some ⟨h, 0, none⟩) (L.nWords 1 m') (L.nWords 1 m')], .bool true])) w') := hid (fun w' g h hg hh hgh hrg hrh hb =>
      kle_rows hk hg hh hgh (by unfold maxLen; omega) (by rw [kleV_on hk, both_T hpr hpr2 V1.out V2.out V3.out V4.out]; simp) (by rw [kleV_on hk, both_U hpr hpr2 V1.out V2.out V3.out V4.out]; simp) (wordsF_len _ _) (wordsF_len _ _) hrg hrh hb)
    clear hk hpa hpb hpr hpr2 HNO hop h12 hmm
    generalize wordsF (L.nWords 1 m') (bothTf aT bT) = XT at *
    generalize wordsF (L.nWords 1 m') (bothUf aT aU bT bU) = XU at *
    generalize L.nWords 1 m' = nw at *
    go_wp2_with (first
      | (go_at_call_of 26 (Value.agg #[.slice A1 aT.length c1, .slice A2 aU.length c2]); refine (HPA.out _ HBW.out).mono ?_; rintro e w1 ⟨rfl, hb1⟩; have HRA1 := hid (HRA.out.mono hb1); have HRB1 := hid (HRB.out.mono hb1); have HRZ1 := hid (HRZ.out.mono hb1); have HBW1 := hid (Below.then' HBW.out hb1 hsz); have hsz1 := HBW1.out.size; clear hb1 a0 a1 b0 b1; obtain ⟨b0, b1⟩ := cell2 HRB1.out)
      | (go_at_call 26; refine (HPB.out _ HBW1.out).mono ?_; rintro e w2 ⟨rfl, hb1⟩; have HRA2 := hid (HRA1.out.mono hb1); have HRB2 := hid (HRB1.out.mono hb1); have HRZ2 := hid (HRZ1.out.mono hb1); have HBW2 := hid (Below.then' HBW1.out hb1 hsz1); have hsz2 := HBW2.out.size; clear hb1 b0 b1; obtain ⟨a0, a1⟩ := cell2 HRA2.out; obtain ⟨b0, b1⟩ := cell2 HRB2.out)
      | (go_at_call 27; refine (HFN.out _ HBW2.out).mono ?_; rintro e w3 ⟨g, h, rfl, hgh, hg, hh, hrg, hrh, hb3⟩; have HRZ3 := hid (HRZ2.out.mono hb3); have HBW3 := hid (Below.then' HBW2.out hb3 hsz2); obtain ⟨z0, z1⟩ := cell2 HRZ3.out; have f0 := HRZ3.out.frozen 0; have f1 := HRZ3.out.frozen 1; have HRG := hid hrg; have HRH := hid hrh; have HL2 := HRZ2.out.lt; clear hb3 hrg hrh a0 a1 b0 b1))
    have hz := (HRZ3.out.set 0 (.slice (some ⟨g, 0, none⟩) nw nw)).set 1 (.slice (some ⟨h, 0, none⟩) nw nw)
    obtain ⟨y0, y1⟩ := cell2 hz
    refine bodyPost_ret (v := .tuple #[.agg #[.slice (some ⟨g, 0, none⟩) nw nw, .slice (some ⟨h, 0, none⟩) nw nw], .bool true]) ?_ rfl (HEND.out _ g h (by omega) (by omega) hgh ((HRG.out.other _ (by show g ≠ w.heap.size + 1 + 1; omega)).other _ (by show g ≠ w.heap.size + 1 + 1; omega)) ((HRH.out.other _ (by show h ≠ w.heap.size + 1 + 1; omega)).other _ (by show h ≠ w.heap.size + 1 + 1; omega)) (below_set (below_set HBW3.out _ _ _ (by omega)) _ _ _ (by omega)))
    simp [results, Tryd.results7, go_sem, *]
  replace h10 : op = 11 := by omega
  subst h10
  have hk : kleOk 11 n aT aU bT bU = true := by unfold kleOk; rw [hpa, hpb]; simp
  obtain ⟨m, rfl, hm, hpr⟩ := prOk_nat hpa
  obtain ⟨m', hmm, _, hpr2⟩ := prOk_nat hpb
  obtain rfl : m' = m := by omega
  have hnw := L.nWords_le (w := 1) (n := m') (by omega)
  have HFN := hid (fun (w2 : World) (hb : Below w.heap.size w w2) => either_any (.slice A1 aT.length c1) (.slice A2 aU.length c2) (.slice A3 bT.length c3) (.slice A4 bU.length c4) aT aU bT bU (L.nWords 1 m') w2 (by omega) (by have := H1.out.mono hb; rw [hpr.lenT] at this ⊢; exact this) (by have := H2.out.mono hb; rw [hpr.lenU] at this ⊢; exact this) (by have := H3.out.mono hb; rw [hpr2.lenT] at this ⊢; exact this) (by have := H4.out.mono hb; rw [hpr2.lenU] at this ⊢; exact this) V1.out V2.out V3.out V4.out)
  have HEND : Hid (∀ (w' : World) (g h : Nat), w.heap.size ≤ g → w.heap.size ≤ h → g ≠ h → Row w' g 55 (u64s (wordsF (L.nWords 1 m') (eithTf aT bT))) → Row w' h 55 (u64s (wordsF (L.nWords 1 m') (eithUf aT aU bT bU))) → Below w.heap.size w w' →
      KleeneSays 11 m' aT aU bT bU w (.returned (.tuple #[.agg #[.slice (some ⟨g, 0, none⟩) (L.nWords 1 m') (L.nWords 1 m'), .slice (some ⟨h, 0, none⟩) (L.nWords 1 m') (L.nWords 1 m')], .bool true])) w') := hid (fun w' g h hg hh hgh hrg hrh hb =>
    kle_rows hk hg hh hgh (by unfold maxLen; omega) (by rw [kleV_on hk, either_T hpr hpr2 V1.out V2.out V3.out V4.out]; simp) (by rw [kleV_on hk, either_U hpr hpr2 V1.out V2.out V3.out V4.out]; simp) (wordsF_len _ _) (wordsF_len _ _) hrg hrh hb)
  clear hk hpa hpb hpr hpr2 HNO hop h12 hmm
  generalize wordsF (L.nWords 1 m') (eithTf aT bT) = XT at *
  generalize wordsF (L.nWords 1 m') (eithUf aT aU bT bU) = XU at *
  generalize L.nWords 1 m' = nw at *
  go_wp2_with (first
    | (go_at_call_of 26 (Value.agg #[.slice A1 aT.length c1, .slice A2 aU.length c2]); refine (HPA.out _ HBW.out).mono ?_; rintro e w1 ⟨rfl, hb1⟩; have HRA1 := hid (HRA.out.mono hb1); have HRB1 := hid (HRB.out.mono hb1); have HRZ1 := hid (HRZ.out.mono hb1); have HBW1 := hid (Below.then' HBW.out hb1 hsz); have hsz1 := HBW1.out.size; clear hb1 a0 a1 b0 b1; obtain ⟨b0, b1⟩ := cell2 HRB1.out)
    | (go_at_call 26; refine (HPB.out _ HBW1.out).mono ?_; rintro e w2 ⟨rfl, hb1⟩; have HRA2 := hid (HRA1.out.mono hb1); have HRB2 := hid (HRB1.out.mono hb1); have HRZ2 := hid (HRZ1.out.mono hb1); have HBW2 := hid (Below.then' HBW1.out hb1 hsz1); have hsz2 := HBW2.out.size; clear hb1 b0 b1; obtain ⟨a0, a1⟩ := cell2 HRA2.out; obtain ⟨b0, b1⟩ := cell2 HRB2.out)
    | (go_at_call 28; refine (HFN.out _ HBW2.out).mono ?_; rintro e w3 ⟨g, h, rfl, hgh, hg, hh, hrg, hrh, hb3⟩; have HRZ3 := hid (HRZ2.out.mono hb3); have HBW3 := hid (Below.then' HBW2.out hb3 hsz2); obtain ⟨z0, z1⟩ := cell2 HRZ3.out; have f0 := HRZ3.out.frozen 0; have f1 := HRZ3.out.frozen 1; have HRG := hid hrg; have HRH := hid hrh; have HL2 := HRZ2.out.lt; clear hb3 hrg hrh a0 a1 b0 b1))
  have hz := (HRZ3.out.set 0 (.slice (some ⟨g, 0, none⟩) nw nw)).set 1 (.slice (some ⟨h, 0, none⟩) nw nw)
  obtain ⟨y0, y1⟩ := cell2 hz
  refine bodyPost_ret (v := .tuple #[.agg #[.slice (some ⟨g, 0, none⟩) nw nw, .slice (some ⟨h, 0, none⟩) nw nw], .bool true]) ?_ rfl (HEND.out _ g h (by omega) (by omega) hgh ((HRG.out.other _ (by show g ≠ w.heap.size + 1 + 1; omega)).other _ (by show g ≠ w.heap.size + 1 + 1; omega)) ((HRH.out.other _ (by show h ≠ w.heap.size + 1 + 1; omega)).other _ (by show h ≠ w.heap.size + 1 + 1; omega)) (below_set (below_set HBW3.out _ _ _ (by omega)) _ _ _ (by omega)))
  simp [results, Tryd.results7, go_sem, *]
end Go.Proofs.YtinkbgnhigpkeaaDoor
