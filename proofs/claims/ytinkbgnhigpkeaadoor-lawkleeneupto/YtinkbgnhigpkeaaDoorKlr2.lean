/- The document's Kleene: the walk. -/
import Derived.Test.YtinkbgnhigpkeaaDoorKlr
set_option linter.unusedVariables false
set_option linter.unusedSimpArgs false
set_option linter.unnecessarySimpa false
set_option maxRecDepth 20000
namespace Go.Proofs.YtinkbgnhigpkeaaDoor
open Go.RowKit

def KleeneDue (op n : Int) (aT aU bT bU : List Nat) (w : World) (e : Ending) (w' : World) : Prop := ∃ tv uv, e = .returned (.tuple #[.agg #[tv, uv], .bool (kleOk op n aT aU bT bU)]) ∧
  w'.ownsRow w.heap.size 55 1 tv (kleV 2 op n aT aU bT bU).length (u64s (kleV 2 op n aT aU bT bU)) ∧ w'.ownsRow w.heap.size 55 1 uv (kleV 1 op n aT aU bT bU).length (u64s (kleV 1 op n aT aU bT bU)) ∧
  Below w.heap.size w w'
theorem bools_snoc (l : List Bool) (b : Bool) : bools l ++ [.bool b] = bools (l ++ [b]) := by simp [bools]
theorem take_range_map (m t : Nat) (f : Nat → Bool) (h : t < m) : ((List.range m).map f).take (t + 1) = ((List.range m).map f).take t ++ [f t] := by
  rw [List.take_succ_eq_append_getElem (by simp; exact h)]
  simp
theorem take_range_len (m t : Nat) (f : Nat → Bool) (h : t ≤ m) : (((List.range m).map f).take t).length = t := by rw [List.length_take, List.length_map, List.length_range]; omega
theorem take_range_all (m : Nat) (f : Nat → Bool) : ((List.range m).map f).take m = (List.range m).map f := List.take_of_length_le (by simp)
theorem Row.keep {w w' : World} {g : Nat} {e : TypeId} {cs : List Value} (h : Row w g e cs) (hk : w'.heap[g]? = w.heap[g]?) : Row w' g e cs := by unfold Row at *; rw [hk]; exact h
set_option maxHeartbeats 4000000 in
theorem refKleene_any (op n : Int) (av au bv bu : Value) (aT aU bT bU : List Nat) (w : World) (h1 : Rd w av aT.length 1 (u64s aT)) (h2 : Rd w au aU.length 1 (u64s aU)) (h3 : Rd w bv bT.length 1 (u64s bT)) (h4 : Rd w bu bU.length 1 (u64s bU))
    (v1 : ∀ x ∈ aT, x < 18446744073709551616) (v2 : ∀ x ∈ aU, x < 18446744073709551616) (v3 : ∀ x ∈ bT, x < 18446744073709551616) (v4 : ∀ x ∈ bU, x < 18446744073709551616)
    (l1 : aT.length ≤ maxLen) (l2 : aU.length ≤ maxLen) (l3 : bT.length ≤ maxLen) (l4 : bU.length ≤ maxLen) :
    Calls Tryd.prog 8 #[.int .i64 op, .int .i64 n, .agg #[av, au], .agg #[bv, bu]] w fun e w' => KleeneDue op n aT aU bT bU w e w' := by
  have HPA := hid (fun (w2 : World) (hb : Below w.heap.size w w2) => refIsPair_any av au aT aU n w2 (h1.mono hb) (h2.mono hb) v1 v2 l1 l2)
  have HPB := hid (fun (w2 : World) (hb : Below w.heap.size w w2) => refIsPair_any bv bu bT bU n w2 (h3.mono hb) (h4.mono hb) v3 v4 l3 l4)
  have HTA := hid (fun (i : Nat) (hi : i ≤ 65536) (w2 : World) (hb : Below w.heap.size w w2) => truthAt_any av au aT aU i hi w2 (h1.mono hb) (h2.mono hb) v1 v2 l1 l2)
  have HTB := hid (fun (i : Nat) (hi : i ≤ 65536) (w2 : World) (hb : Below w.heap.size w w2) => truthAt_any bv bu bT bU i hi w2 (h3.mono hb) (h4.mono hb) v3 v4 l3 l4)
  obtain ⟨A1, c1, rfl, _, _, _⟩ := h1.form
  obtain ⟨A2, c2, rfl, _, _, _⟩ := h2.form
  obtain ⟨A3, c3, rfl, _, _, _⟩ := h3.form
  obtain ⟨A4, c4, rfl, _, _, _⟩ := h4.form
  have HNO : Hid (kleOk op n aT aU bT bU = false → ∀ w' : World, Below w.heap.size w w' → KleeneDue op n aT aU bT bU w (.returned (.tuple #[.agg #[.slice none 0 0, .slice none 0 0], .bool false])) w') := hid (fun hk w' hb => by
    refine ⟨_, _, by rw [hk], ?_, ?_, hb⟩
    · rw [kle_off hk]; exact owns_nil
    · rw [kle_off hk]; exact owns_nil)
  clear h1 h2 h3 h4 v1 v2 v3 v4
  go_enter Tryd.func8, Tryd.ntmps8
  go_upto_region 1 with fail
  obtain ⟨ra, rb, rz, hbw, hsz⟩ := rows3d (w := w) (X := #[.slice A1 aT.length c1, .slice A2 aU.length c2]) (Y := #[.slice A3 bT.length c3, .slice A4 bU.length c4]) (Z := #[.slice none 0 0, .slice none 0 0]) (eX := 24) (eY := 24) (eZ := 24) rfl
  have HRA := hid ra; have HRB := hid rb; have HRZ := hid rz; have HBW := hid hbw
  clear ra rb rz hbw hsz
  generalize ((w.alloc (.cells #[.slice A1 aT.length c1, .slice A2 aU.length c2] 24)).alloc (.cells #[.slice A3 bT.length c3, .slice A4 bU.length c4] 24)).alloc (.cells #[.slice none 0 0, .slice none 0 0] 24) = w0 at *
  obtain ⟨a0, a1⟩ := cell2 HRA.out
  obtain ⟨b0, b1⟩ := cell2 HRB.out
  have hsz : w.heap.size ≤ w0.heap.size := HBW.out.size
  obtain ⟨K, hK⟩ : ∃ K, kleOk op n aT aU bT bU = K := ⟨_, rfl⟩
  go_cut [39] from 14 to 39 (fun s39 wc => s39 = .bool (!K) ∧ Hid (Row wc w.heap.size 24 [.slice A1 aT.length c1, .slice A2 aU.length c2]) ∧ Hid (Row wc (w.heap.size + 1) 24 [.slice A3 bT.length c3, .slice A4 bU.length c4]) ∧ Hid (Row wc (w.heap.size + 1 + 1) 24 [.slice none 0 0, .slice none 0 0]) ∧ Hid (Below w.heap.size w wc))
  case first =>
    by_cases hop : op = 10 ∨ op = 11 ∨ op = 12
    rotate_left
    · have d1 : ¬ op = 10 := by omega
      have d2 : ¬ op = 11 := by omega
      have d3 : ¬ op = 12 := by omega
      obtain rfl : K = false := by rw [← hK]; unfold kleOk; simp [d1, d2, d3]
      have e1 : (op != 10) = true := by simp [d1]
      have e2 : (op != 11) = true := by simp [d2]
      have e3 : (op != 12) = true := by simp [d3]
      go_wp2_with fail
      go_meet
      exact ⟨rfl, HRA, HRB, HRZ, HBW⟩
    obtain ⟨pa, hpa⟩ : ∃ pa, prOk n aT aU = pa := ⟨_, rfl⟩
    obtain ⟨pb, hpb⟩ : ∃ pb, prOk n bT bU = pb := ⟨_, rfl⟩
    rw [hpa] at HPA
    rw [hpb] at HPB
    unfold kleOk at hK
    rw [hpa, hpb] at hK
    have HK := hid hK
    clear hK hpa hpb HNO
    rcases hop with rfl | rfl | rfl
    · cases pa
      · obtain rfl : K = false := by rw [← HK.out]; simp
        go_wp2_with (go_at_call 30; refine (HPA.out _ HBW.out).mono ?_; rintro e w1 ⟨rfl, hb1⟩)
        go_meet
        exact ⟨rfl, hid (HRA.out.mono hb1), hid (HRB.out.mono hb1), hid (HRZ.out.mono hb1), hid (Below.then' HBW.out hb1 hsz)⟩
      · obtain rfl : K = pb := by rw [← HK.out]; simp
        cases K
        all_goals
          go_wp2_with (first
            | (go_at_call_of 30 (Value.agg #[.slice A1 aT.length c1, .slice A2 aU.length c2]); refine (HPA.out _ HBW.out).mono ?_; rintro e w1 ⟨rfl, hb1⟩; have HRA1 := hid (HRA.out.mono hb1); have HRB1 := hid (HRB.out.mono hb1); have HRZ1 := hid (HRZ.out.mono hb1); have HBW1 := hid (Below.then' HBW.out hb1 hsz); have hsz1 := HBW1.out.size; clear hb1 a0 a1 b0 b1; obtain ⟨b0, b1⟩ := cell2 HRB1.out)
            | (go_at_call 30; refine (HPB.out _ HBW1.out).mono ?_; rintro e w2 ⟨rfl, hb2⟩))
          go_meet
          exact ⟨rfl, hid (HRA1.out.mono hb2), hid (HRB1.out.mono hb2), hid (HRZ1.out.mono hb2), hid (Below.then' HBW1.out hb2 hsz1)⟩
    · cases pa
      · obtain rfl : K = false := by rw [← HK.out]; simp
        go_wp2_with (go_at_call 30; refine (HPA.out _ HBW.out).mono ?_; rintro e w1 ⟨rfl, hb1⟩)
        go_meet
        exact ⟨rfl, hid (HRA.out.mono hb1), hid (HRB.out.mono hb1), hid (HRZ.out.mono hb1), hid (Below.then' HBW.out hb1 hsz)⟩
      · obtain rfl : K = pb := by rw [← HK.out]; simp
        cases K
        all_goals
          go_wp2_with (first
            | (go_at_call_of 30 (Value.agg #[.slice A1 aT.length c1, .slice A2 aU.length c2]); refine (HPA.out _ HBW.out).mono ?_; rintro e w1 ⟨rfl, hb1⟩; have HRA1 := hid (HRA.out.mono hb1); have HRB1 := hid (HRB.out.mono hb1); have HRZ1 := hid (HRZ.out.mono hb1); have HBW1 := hid (Below.then' HBW.out hb1 hsz); have hsz1 := HBW1.out.size; clear hb1 a0 a1 b0 b1; obtain ⟨b0, b1⟩ := cell2 HRB1.out)
            | (go_at_call 30; refine (HPB.out _ HBW1.out).mono ?_; rintro e w2 ⟨rfl, hb2⟩))
          go_meet
          exact ⟨rfl, hid (HRA1.out.mono hb2), hid (HRB1.out.mono hb2), hid (HRZ1.out.mono hb2), hid (Below.then' HBW1.out hb2 hsz1)⟩
    · cases pa
      · obtain rfl : K = false := by rw [← HK.out]; simp
        go_wp2_with (go_at_call 30; refine (HPA.out _ HBW.out).mono ?_; rintro e w1 ⟨rfl, hb1⟩)
        go_meet
        exact ⟨rfl, hid (HRA.out.mono hb1), hid (HRB.out.mono hb1), hid (HRZ.out.mono hb1), hid (Below.then' HBW.out hb1 hsz)⟩
      · obtain rfl : K = true := by rw [← HK.out]; simp
        go_wp2_with (go_at_call 30; refine (HPA.out _ HBW.out).mono ?_; rintro e w1 ⟨rfl, hb1⟩)
        go_meet
        exact ⟨rfl, hid (HRA.out.mono hb1), hid (HRB.out.mono hb1), hid (HRZ.out.mono hb1), hid (Below.then' HBW.out hb1 hsz)⟩
  case rest =>
    obtain ⟨hs39, HRA1, HRB1, HRZ1, HBW1⟩ := hcut
    clear a0 a1 b0 b1 HRA HRB HRZ HBW hsz HPA HPB
    have hsz : w.heap.size ≤ wc.heap.size := HBW1.out.size
    cases K
    · simp only [Bool.not_false] at hs39
      subst hs39
      have HN := hid (HNO.out hK)
      have f0 := HRZ1.out.frozen 0
      have f1 := HRZ1.out.frozen 1
      obtain ⟨z0, z1⟩ := cell2 HRZ1.out
      clear hK HNO
      go_wp2_with fail
      have hz := (HRZ1.out.set 0 (.slice none 0 0)).set 1 (.slice none 0 0)
      obtain ⟨y0, y1⟩ := cell2 hz
      refine bodyPost_ret (v := .tuple #[.agg #[.slice none 0 0, .slice none 0 0], .bool false]) ?_ rfl (HN.out _ (below_set (below_set HBW1.out _ _ _ (by omega)) _ _ _ (by omega)))
      simp [results, Tryd.results8, go_sem, *]
    simp only [Bool.not_true] at hs39
    subst hs39
    have hpa : prOk n aT aU = true := by unfold kleOk at hK; simp only [Bool.and_eq_true] at hK; exact hK.1.2
    obtain ⟨m, rfl, hm, _⟩ := prOk_nat hpa
    have HVT := hid (kleV_on hK 2)
    have HVU := hid (kleV_on hK 1)
    simp only [Int.toNat_natCast] at HVT HVU
    have HK := hid hK
    clear hpa hK HNO
    go_wp2_with fail
    go_loopw [10, 11, 12] (fun hv ov i wr => ∃ t : Nat, t ≤ m ∧ i = .int .i64 t ∧ Hid (wr.ownsRow w.heap.size 4 1 hv t (bools (((List.range m).map (kleF op 2 aT aU bT bU)).take t))) ∧ Hid (wr.ownsRow w.heap.size 4 1 ov t (bools (((List.range m).map (kleF op 1 aT aU bT bU)).take t))) ∧ Hid (∀ k, hv.ownBlock = some k → w.heap.size + 1 + 1 < k ∧ ov.ownBlock ≠ some k) ∧ Hid (∀ k, ov.ownBlock = some k → w.heap.size + 1 + 1 < k) ∧ Hid (Row wr w.heap.size 24 [.slice A1 aT.length c1, .slice A2 aU.length c2]) ∧ Hid (Row wr (w.heap.size + 1) 24 [.slice A3 bT.length c3, .slice A4 bU.length c4]) ∧ Hid (Row wr (w.heap.size + 1 + 1) 24 [.slice none 0 0, .slice none 0 0]) ∧ Hid (Below w.heap.size w wr)) (fun _ _ i _ => m - (intOf i).toNat)
    case atStart => exact ⟨0, by omega, rfl, hid (by simpa [bools] using owns_nil), hid (by simpa [bools] using owns_nil), hid (fun k hk => by simp [Value.ownBlock] at hk), hid (fun k hk => by simp [Value.ownBlock] at hk), HRA1, HRB1, HRZ1, HBW1⟩
    case round =>
      obtain ⟨t, ht, rfl, HH, HO, HHK, HOK, HRA, HRB, HRZ, HBW⟩ := hrel
      clear HRA1 HRB1 HRZ1 HBW1 hsz
      have hsz : w.heap.size ≤ wr.heap.size := HBW.out.size
      by_cases hlt : t < m
      · have HTAt := hid (fun (w2 : World) (hb : Below w.heap.size w w2) => HTA.out t (by omega) w2 hb)
        have HTBt := hid (fun (w2 : World) (hb : Below w.heap.size w w2) => HTB.out t (by omega) w2 hb)
        have HJN := hid (fun (w2 : World) => join_any op (trU aT aU t) (trU bT bU t) w2 (trU_range _ _ _) (trU_range _ _ _))
        have HF2 : Hid (kleF op 2 aT aU bT bU t = decide (joinI op (trU aT aU t) (trU bT bU t) = 2)) := hid rfl
        have HF1 : Hid (kleF op 1 aT aU bT bU t = decide (joinI op (trU aT aU t) (trU bT bU t) = 1)) := hid rfl
        generalize joinI op (trU aT aU t) (trU bT bU t) = J at *
        generalize trU aT aU t = xa at *
        generalize trU bT bU t = xb at *
        obtain ⟨a0, a1⟩ := cell2 HRA.out
        obtain ⟨b0, b1⟩ := cell2 HRB.out
        go_wp2_with fail
        go_region_held3 (fun w' => w'.cell? ⟨w.heap.size, 0, none⟩ = some (.slice A1 aT.length c1) ∧ w'.cell? ⟨w.heap.size, 1, none⟩ = some (.slice A2 aU.length c2) ∧ w'.cell? ⟨w.heap.size + 1, 0, none⟩ = some (.slice A3 bT.length c3) ∧ w'.cell? ⟨w.heap.size + 1, 1, none⟩ = some (.slice A4 bU.length c4)) (go_keep)
          (first
            | (go_at_call_of 32 (Value.agg #[.slice A1 aT.length c1, .slice A2 aU.length c2]); refine (HTAt.out _ (bdrew HBW.out _)).mono ?_; rintro e w3 ⟨rfl, hb3⟩; have HB3 := hid hb3; have HRA3 := hid (HRA.out.mono ((bdrew (brefl wr) _).trans hb3)); have HRB3 := hid (HRB.out.mono ((bdrew (brefl wr) _).trans hb3)); have HBW3 := hid (Below.then' (bdrew HBW.out _) hb3 hsz); obtain ⟨p0, p1⟩ := cell2 HRA3.out; obtain ⟨q0, q1⟩ := cell2 HRB3.out; clear hb3)
            | (go_at_call 32; refine (HTBt.out _ HBW3.out).mono ?_; rintro e w4 ⟨rfl, hb4⟩; have HB4 := hid hb4; have HRA4 := hid (HRA3.out.mono hb4); have HRB4 := hid (HRB3.out.mono hb4); have HBW4 := hid (Below.then' HBW3.out hb4 HBW3.out.size); obtain ⟨r0, r1⟩ := cell2 HRA4.out; obtain ⟨s0, s1⟩ := cell2 HRB4.out; clear hb4)
            | (go_at_call 31; refine (HJN.out _).mono ?_; rintro e w5 ⟨rfl, rfl⟩))
        have HW5 : Hid (Below wr.heap.size wr w5) := hid (bthen (bthen (bdrew (brefl wr) 1) HB3.out) HB4.out)
        have HH5 := hid (owns_below HH.out HW5.out)
        have HO5 := hid (owns_below HO.out HW5.out)
        have HRZ5 := hid (HRZ.out.mono HW5.out)
        have hsz5 : w.heap.size ≤ w5.heap.size := HBW4.out.size
        have HTK2 := hid (take_range_map m t (kleF op 2 aT aU bT bU) hlt)
        have HTK1 := hid (take_range_map m t (kleF op 1 aT aU bT bU) hlt)
        rw [HF2.out] at HTK2
        rw [HF1.out] at HTK1
        have HE2 : Hid ((J == 2) = decide (J = 2)) := hid (by by_cases h : J = 2 <;> simp [h])
        have HE1 : Hid ((J == 1) = decide (J = 1)) := hid (by by_cases h : J = 1 <;> simp [h])
        clear p0 p1 q0 q1 r0 r1 s0 s1 a0 a1 b0 b1 HF1 HF2 HRA3 HRB3 HBW3 HB3 HB4 HW5 HRA HRB HRZ HBW HH HO HTA HTB HTAt HTBt HJN
        go_wp2_with (first
          | (at_builtin; refine wpList_append1W rfl (.tmp 54) (.tmp 57) rfl 4 (.bool false) 1 Tryd.underlying51 Tryd.infoBool rfl rfl rfl HH5.out hsz5 (by rfl) (by unfold maxLen; omega) (by omega) ?_; intro v6 w6 ho6 hb6 hsz6 hk6 hw6; have HH6 := hid ho6; have HB6 := hid hb6; have HSZ6 := hid hsz6; have HK6 := hid hk6; have HW6 := hid hw6; clear ho6 hb6 hsz6 hk6 hw6; have HO6 := hid (owns_keep HO5.out (w' := w6) (fun k hk => HK6.out k (HO5.out.lt k hk).2 (fun h => (HHK.out k h.symm).2 hk))))
          | (at_builtin; refine wpList_append1W rfl (.tmp 59) (.tmp 62) rfl 4 (.bool false) 1 Tryd.underlying51 Tryd.infoBool rfl rfl rfl HO6.out (Nat.le_trans hsz5 HSZ6.out) (by rfl) (by unfold maxLen; omega) (by omega) ?_; intro v7 w7 ho7 hb7 hsz7 hk7 hw7; have HO7 := hid ho7; have HB7 := hid hb7; have HSZ7 := hid hsz7; have HK7 := hid hk7; have HW7 := hid hw7; clear ho7 hb7 hsz7 hk7 hw7))
        go_roundw
        case rel =>
          have hz5 := HRZ5.out.lt
          have HD6 : ∀ k, v6.ownBlock = some k → w.heap.size + 1 + 1 < k ∧ _ ≠ some k := fun k hk => by
            rcases HW6.out with h | ⟨h, _⟩
            · rw [h] at hk; exact HHK.out k hk
            · have := h k hk
              exact ⟨by omega, fun h2 => by have := (HO5.out.lt k h2).2; omega⟩
          have HKR : ∀ g, g ≤ w.heap.size + 1 + 1 → w7.heap[g]? = w5.heap[g]? := fun g hg => by
            rw [HK7.out g (by have := HSZ6.out; omega) (fun h => by have := HOK.out g h.symm; omega), HK6.out g (by omega) (fun h => by have := (HHK.out g h.symm).1; omega)]
          refine ⟨t + 1, by omega, by go_num, hid ?_, hid ?_, hid (fun k hk => ⟨(HD6 k hk).1, ?_⟩), hid (fun k hk => ?_), hid (HRA4.out.keep (HKR _ (by omega))), hid (HRB4.out.keep (HKR _ (by omega))), hid (HRZ5.out.keep (HKR _ (by omega))), hid ((HBW4.out.trans HB6.out).trans HB7.out)⟩
          · rw [HTK2.out, ← bools_snoc, ← HE2.out]
            exact owns_keep HH6.out (fun k hk => HK7.out k (HH6.out.lt k hk).2 (fun h => (HD6 k hk).2 h.symm))
          · rw [HTK1.out, ← bools_snoc, ← HE1.out]
            exact HO7.out
          · rcases HW7.out with h | ⟨h, _⟩
            · rw [h]; exact (HD6 k hk).2
            · intro h2
              have := h k h2
              have := (HH6.out.lt k hk).2
              omega
          · rcases HW7.out with h | ⟨h, _⟩
            · rw [h] at hk; exact HOK.out k hk
            · have := h k hk
              have := HSZ6.out
              omega
        case measure => simp [intOf]; omega
      · obtain rfl : t = m := by omega
        have HFH := hid (take_range_all t (kleF op 2 aT aU bT bU))
        have HFO := hid (take_range_all t (kleF op 1 aT aU bT bU))
        have hl2 : ((List.range t).map (kleF op 2 aT aU bT bU)).length = t := by simp
        have hl1 : ((List.range t).map (kleF op 1 aT aU bT bU)).length = t := by simp
        rw [HFH.out] at HH
        rw [HFO.out] at HO
        generalize (List.range t).map (kleF op 2 aT aU bT bU) = F2 at *
        generalize (List.range t).map (kleF op 1 aT aU bT bU) = F1 at *
        have HBM2 := hid (bitmapOf_any _ F2 wr (by rw [hl2]; exact owns_rd HH.out) (by omega))
        have HBM1 := hid (fun (w2 : World) (hb : Below wr.heap.size wr w2) => bitmapOf_any _ F1 w2 (by rw [hl1]; exact owns_rd (owns_below HO.out hb)) (by omega))
        rw [← HVT.out] at HBM2
        rw [← HVU.out] at HBM1
        clear HFH HFO hl1 hl2 HH HO HHK HOK HVT HVU HTA HTB
        go_wp2_with (first
          | (go_at_call 33; refine HBM2.out.mono ?_; rintro e w3 ⟨r3, rfl, ho3, hb3⟩; have HO3 := hid ho3; have HB3 := hid hb3; obtain ⟨A5, c5, rfl, _, _, _, _⟩ := owns_form ho3; clear ho3 hb3 HBM2)
          | (go_at_call 33; refine (HBM1.out _ HB3.out).mono ?_; rintro e w4 ⟨r4, rfl, ho4, hb4⟩; have HO4 := hid ho4; have HB4 := hid hb4; obtain ⟨A6, c6, rfl, _, _, _, _⟩ := owns_form ho4; have HRZ4 := hid ((HRZ.out.mono HB3.out).mono hb4); obtain ⟨z0, z1⟩ := cell2 HRZ4.out; have f0 := HRZ4.out.frozen 0; have f1 := HRZ4.out.frozen 1; clear ho4 hb4))
        have hbw3 := HBW.out.trans (HB3.out.mono HBW.out.size)
        have HO3' := hid (owns_below HO3.out HB4.out)
        have hs34 := hbw3.size
        generalize hXT : kleV 2 op t aT aU bT bU = XT at *
        generalize hXU : kleV 1 op t aT aU bT bU = XU at *
        have hlz := HRZ.out.lt
        have hs3 := HB3.out.size
        have hz := (HRZ4.out.set 0 (.slice A5 XT.length c5)).set 1 (.slice A6 XU.length c6)
        obtain ⟨y0, y1⟩ := cell2 hz
        refine bodyPost_ret (v := .tuple #[.agg #[.slice A5 XT.length c5, .slice A6 XU.length c6], .bool true]) ?_ rfl ⟨.slice A5 XT.length c5, .slice A6 XU.length c6, by rw [HK.out], ?_, ?_, below_set (below_set (Below.then' hbw3 HB4.out hs34) _ _ _ (by omega)) _ _ _ (by omega)⟩
        · simp [results, Tryd.results8, go_sem, *]
        · rw [hXT]
          refine owns_keep (owns_base HO3'.out HBW.out.size) fun b hb => ?_
          have := (HO3'.out.lt b hb).1
          rw [heap_setCell_other _ _ b _ (by show b ≠ w.heap.size + 1 + 1; omega), heap_setCell_other _ _ b _ (by show b ≠ w.heap.size + 1 + 1; omega)]
        · rw [hXU]
          refine owns_keep (owns_base HO4.out (Nat.le_trans HBW.out.size hs3)) fun b hb => ?_
          have := (HO4.out.lt b hb).1
          rw [heap_setCell_other _ _ b _ (by show b ≠ w.heap.size + 1 + 1; omega), heap_setCell_other _ _ b _ (by show b ≠ w.heap.size + 1 + 1; omega)]
end Go.Proofs.YtinkbgnhigpkeaaDoor
