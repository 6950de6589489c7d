/- The plain answer: runs put into bytes. -/
import Derived.Test.YtdlkdiaobbakiaaGreatDoorLawencodeuptoB16
import Derived.Deep.RegionWith
set_option linter.unusedVariables false
set_option linter.unusedSimpArgs false
set_option linter.unnecessarySimpa false
set_option maxRecDepth 100000
namespace Go.Proofs.YtdlkdiaobbakiaaGreatDoor
open Go.RowKit

/-- append of one entry of three cells, and where the answer lies -/
theorem wpList_append3K {P : Program} {w : World} {ops : Array Oper} {rest : List Oper} {o : Oper} {a : Act} {Q : Exit → Act → World → Prop} {t : TypeId} {x y z v : Value} {B n : Nat} {xs : List Value}
    (hgd : o.guard = none) (s r : Operand) (ho : o.op = .call { callee := .builtin .append, args := #[s, r], argTypes := #[t, t] })
    (e : TypeId) (zs : List Value) (bytes : Nat) (h1 : P.underlying t = some (.slice e)) (h2 : (P.info? e).map (fun i => (i.zero, i.size, i.bytes)) = some (some (.agg zs.toArray), 3, bytes)) (hz : zs.length = 3)
    (hs : a.eval s = v) (hx : a.eval r = .slice (some ⟨w.heap.size, 0, none⟩) 1 1)
    (hown : w.ownsRow B e 3 v n xs) (hB : B ≤ w.heap.size) (hu : ∀ u ∈ [x, y, z], u.oneCell' = true) (hm : n + 1 ≤ maxLen) (hby : (n + 1) * bytes ≤ 140737488355328)
    (hK : ∀ v' w', w'.ownsRow B e 3 v' (n + 1) (xs ++ [x, y, z]) → Below B w w' → w.heap.size ≤ w'.heap.size → Kp v w w' v' → wpList P ops Q rest (a.put o.dst v') w') :
    wpList P ops Q (o :: rest) a (w.alloc (.cells #[x, y, z] e)) := by
  refine wpList_plain hgd fun K hK' => ?_
  unfold Oper.wp execOp
  simp only [ho, resolve, invoke, builtin, Sem.run_bind, Sem.run_pure, Result.andThen_ok, List.map_toArray, List.map_cons, List.map_nil, hs, hx]
  obtain ⟨i, hi, hz0, hz1, hz2⟩ := info_parts h2
  have hzz : ((Value.agg zs.toArray).cells.size = 3) := by simpa [Value.cells] using hz
  obtain ⟨v', w', hr, h3, h4, _⟩ := run_append_own (P := P) (w := w.alloc (.cells #[x, y, z] e)) B t o.type e i (.agg zs.toArray) 3 bytes h1 hi hz0 hz1 hz2 hzz (by omega) v n xs (hown.alloc _)
    ⟨w.heap.size, 0, none⟩ 1 1 [x, y, z] rfl (cell_new3 w x y z e) hu hm hby (by simp; omega)
  obtain ⟨v2, w2, hr2, h5⟩ := append_where (P := P) (w := w.alloc (.cells #[x, y, z] e)) B t o.type e i (.agg zs.toArray) 3 bytes h1 hi hz0 hz1 hz2 hzz (by omega) v n xs (hown.alloc _)
    ⟨w.heap.size, 0, none⟩ 1 1 [x, y, z] rfl (cell_new3 w x y z e) hu hm hby (by omega)
  rw [hr] at hr2
  injection hr2 with e1 e2
  subst e1 e2
  have hlt := hown.lt
  refine upon_ok hr (hK' _ _ (hK _ _ h3 ?_ ?_ ⟨?_, ?_⟩))
  · refine (((Below.refl B w).alloc hB _).grown h4 (by simp; omega) ?_)
    intro k hk; exact (hlt k hk).1
  · have := h4.size; simp at this; omega
  · intro k hk hne
    rw [h4.block k (by simp; omega) hne]
    exact heap_alloc_old w _ hk
  · intro k hk
    rcases h5 with h5 | ⟨h5, h6⟩
    · exact .inl (by rw [← h5]; exact hk.symm)
    · rw [h5] at hk; simp at hk; exact .inr (by omega)
/-- two lists in blocks of their own -/
def Apart (a b : Value) : Prop := ∀ k, a.ownBlock = some k → b.ownBlock ≠ some k
theorem Apart.left {a b r : Value} {w w' : World} (h : Apart a b) (hk : Kp a w w' r) (hb : ∀ k, b.ownBlock = some k → k < w.heap.size) : Apart r b := by
  intro k h1 h2
  rcases hk.2 k h1 with h3 | h3
  · exact h k h3.symm h2
  · have := hb k h2; omega
theorem Apart.right {a b r : Value} {w w' : World} (h : Apart a b) (hk : Kp b w w' r) (ha : ∀ k, a.ownBlock = some k → k < w.heap.size) : Apart a r := by
  intro k h1 h2
  rcases hk.2 k h2 with h3 | h3
  · exact h k h1 h3.symm
  · have := ha k h1; omega
theorem owns_kp {a b r : Value} {w w' : World} {B sz n : Nat} {e : TypeId} {cs : List Value} (h : w.ownsRow B e sz b n cs) (hk : Kp a w w' r) (hap : Apart a b) : w'.ownsRow B e sz b n cs :=
  owns_keep h (fun k hb => hk.1 k (h.lt k hb).2 (fun he => hap k he.symm hb))

/-- the places where a run ends -/
def endAt (vs : List PV) (i : Nat) : Bool := decide (i + 1 = vs.length) || !eqP (vs.getD i dfP) (vs.getD (i + 1) dfP)
def endIx (vs : List PV) (t : Nat) : List Nat := (List.range t).filter (endAt vs)
def runEndsL (vs : List PV) (t : Nat) : List Nat := (endIx vs t).map (· + 1)
def runHeads (vs : List PV) (t : Nat) : List PV := (endIx vs t).map fun i => vs.getD i dfP
def runsB (kd : Nat) (vs : List PV) : List Nat := leN 4 (runEndsL vs vs.length).length ++ le4N (runEndsL vs vs.length) ++ listB kd (runHeads vs vs.length)
theorem endIx_succ (vs : List PV) (t : Nat) : endIx vs (t + 1) = if endAt vs t = true then endIx vs t ++ [t] else endIx vs t := by
  unfold endIx; rw [List.range_succ, List.filter_append]
  by_cases h : endAt vs t = true
  · rw [if_pos h]; simp [h]
  · rw [if_neg h]; simp [h]
theorem endIx_len (vs : List PV) (t : Nat) : (endIx vs t).length ≤ t := by
  have h := List.length_filter_le (endAt vs) (List.range t)
  rwa [List.length_range] at h
theorem runEndsL_succ (vs : List PV) (t : Nat) : runEndsL vs (t + 1) = if endAt vs t = true then runEndsL vs t ++ [t + 1] else runEndsL vs t := by
  unfold runEndsL; rw [endIx_succ]; split <;> simp
theorem runHeads_succ (vs : List PV) (t : Nat) : runHeads vs (t + 1) = if endAt vs t = true then runHeads vs t ++ [vs.getD t dfP] else runHeads vs t := by
  unfold runHeads; rw [endIx_succ]; split <;> simp
theorem runEndsL_len (vs : List PV) (t : Nat) : (runEndsL vs t).length ≤ t := by unfold runEndsL; rw [List.length_map]; exact endIx_len vs t
theorem runHeads_len (vs : List PV) (t : Nat) : (runHeads vs t).length = (runEndsL vs t).length := by unfold runHeads runEndsL; simp
theorem runEndsL_lt (vs : List PV) (t : Nat) : ∀ x ∈ runEndsL vs t, x ≤ t := by
  intro x hx
  simp only [runEndsL, endIx, List.mem_map, List.mem_filter, List.mem_range] at hx
  obtain ⟨a, ⟨h, _⟩, rfl⟩ := hx
  omega
def pN (n : Nat) : PV := ((n : Int), ByteArray.empty)
def sumT (vs : List PV) : Nat := sumS (vs.map Prod.snd)
theorem sumT_cons (v : PV) (r : List PV) : sumT (v :: r) = v.2.size + sumT r := by simp [sumT, sumS]
theorem range_sub_sum (vs : List PV) (p : Nat → Bool) : sumT (((List.range vs.length).filter p).map fun i => vs.getD i dfP) ≤ sumT vs := by
  have key : ∀ (ws : List PV) (t : Nat), t ≤ ws.length → sumT (((List.range t).filter p).map fun i => ws.getD i dfP) ≤ sumT (ws.take t) := by
    intro ws t
    induction t with
    | zero => intro _; simp [sumT, sumS]
    | succ t ih =>
      intro ht
      have h1 := ih (by omega)
      have h2 : sumT (ws.take (t + 1)) = sumT (ws.take t) + (ws.getD t dfP).2.size := by
        rw [take_snoc ws dfP t (by omega)]; unfold sumT; rw [List.map_append, List.map_cons, List.map_nil, sumS_snoc]
      rw [List.range_succ, List.filter_append, List.map_append]
      have h3 : sumT (((List.range t).filter p).map (fun i => ws.getD i dfP) ++ ([t].filter p).map (fun i => ws.getD i dfP)) ≤ sumT (((List.range t).filter p).map (fun i => ws.getD i dfP)) + (ws.getD t dfP).2.size := by
        by_cases h : p t = true
        · simp [h, sumT, sumS]
        · simp [h, sumT, sumS]
      omega
  have h := key vs vs.length (Nat.le_refl _)
  rwa [List.take_length] at h
theorem runHeads_sum (vs : List PV) : sumT (runHeads vs vs.length) ≤ sumT vs := range_sub_sum vs _
theorem Apart.symm {a b : Value} (h : Apart a b) : Apart b a := fun k h1 h2 => h k h2 h1
theorem owns_low {w : World} {B B' sz : Nat} {e : TypeId} {v : Value} {n : Nat} {xs : List Value} (h : w.ownsRow B e sz v n xs) (hb : B' ≤ B) : w.ownsRow B' e sz v n xs := by
  refine ⟨h.1, ?_⟩
  rcases h.2 with h | ⟨g, cap, cur, rfl, h1, h2, r⟩
  · exact .inl h
  · exact .inr ⟨g, cap, cur, rfl, Nat.le_trans hb h1, h2, r⟩
theorem pN_get (es : List Nat) (t : Nat) (h : t < es.length) : (es.map pN).getD t dfP = pN (es.getD t 0) := by
  simp [List.getD, List.getElem?_eq_getElem h]
theorem Kp.cell {v r x : Value} {w w' : World} (h : Kp v w w' r) {q o : Nat} (hc : w.cell? ⟨q, o, none⟩ = some x) (hne : some q ≠ v.ownBlock) : w'.cell? ⟨q, o, none⟩ = some x := by
  rw [World.cell?_of_block (h.1 q (World.block_lt_of_cell? w _ hc) hne)]; exact hc
set_option maxHeartbeats 16000000 in
theorem runsOf_any (kd : Nat) (hkd : kd = 1 ∨ kd = 2) (u : Value) (vs : List PV) (w : World) (hu : Rd w u vs.length 3 (cellsP vs)) (hl : vs.length ≤ 1048576) (hs : sumT vs ≤ 67108864) :
    Calls Tryz.prog 64 #[.int .i64 kd, u] w fun e w' => ∃ r, e = .returned r ∧ OwnB w.heap.size w' r (runsB kd vs) ∧ Below w.heap.size w w' := by
  have HU := hid hu
  obtain ⟨A1, c1, rfl, _, _, _⟩ := hu.form
  obtain ⟨R, hR⟩ : ∃ R, runsB kd vs = R := ⟨_, rfl⟩
  have HRR := hid hR
  rw [hR]
  have HSUM := hid (Nat.le_trans (runHeads_sum vs) hs)
  clear hu hR hs
  go_enter Tryz.func64, Tryz.ntmps64
  go_wp2_with fail
  go_loopw [5, 6, 14] (fun ev fv i wr => ∃ t : Nat, t ≤ vs.length ∧ i = .int .i64 t ∧ Hid (wr.ownsRow w.heap.size 38 3 ev (runEndsL vs t).length (cellsP ((runEndsL vs t).map pN))) ∧ Hid (wr.ownsRow w.heap.size 38 3 fv (runEndsL vs t).length (cellsP (runHeads vs t))) ∧ Hid (Apart ev fv) ∧ Hid (Below w.heap.size w wr)) (fun _ _ i _ => vs.length - (intOf i).toNat)
  case atStart => exact ⟨0, by omega, rfl, hid ⟨by simp [runEndsL, endIx, cellsP], .inl ⟨rfl, rfl⟩⟩, hid ⟨by simp [runEndsL, runHeads, endIx, cellsP], .inl ⟨rfl, rfl⟩⟩, hid (fun k h => by cases h), hid (brefl w)⟩
  case round =>
    obtain ⟨t, ht, rfl, HE, HF, HAP, HB⟩ := hrel
    by_cases hlt : t < vs.length
    · obtain ⟨b, o, rfl, hcells⟩ := (HU.out.mono HB.out).atP (by omega)
      obtain ⟨l0, l1, l2⟩ := hcells t hlt
      have HC := hid hcells
      clear hcells
      have HSE := hid (runEndsL_succ vs t)
      have HSF := hid (runHeads_succ vs t)
      have HML := hid (runEndsL_len vs t)
      have HXY : Hid (endAt vs t = (decide (t + 1 = vs.length) || !decide (ordP (vs.getD t dfP) (vs.getD (t + 1) dfP) = 0))) := hid rfl
      have HO := hid (fun (w2 : World) => order_any (vs.getD t dfP) (vs.getD (t + 1) dfP) w2)
      obtain ⟨X, hX⟩ : ∃ X, vs.getD t dfP = X := ⟨_, rfl⟩
      rw [hX] at l1 l2 HSF HXY HO
      obtain ⟨xi, xs'⟩ := X
      simp only at l1 l2 HSF HXY HO
      clear hX
      generalize runEndsL vs t = es at *
      generalize runHeads vs t = hs at *
      obtain ⟨m, hm⟩ : ∃ m, es.length = m := ⟨_, rfl⟩
      have HM := hid hm
      rw [hm] at HE HF HML
      clear hm
      obtain ⟨E1, ce1, rfl⟩ := owns3_form HE.out
      obtain ⟨F1, cf1, rfl⟩ := owns3_form HF.out
      have HV9 : Hid (m + 1 ≤ 1048577) := hid (by have := HML.out; omega)
      have HBA := hid ((brefl wr).alloc (Nat.le_refl _) (.cells #[.bool false, .int .i64 xi, .string xs'] 38))
      have HEA := hid (owns3_below HE.out HBA.out)
      have HFA := hid (owns3_below HF.out HBA.out)
      have HEQ := hid (fun k hk => (HE.out.lt k hk).2)
      have HFQ := hid (fun k hk => (HF.out.lt k hk).2)
      have HSZ : Hid (w.heap.size ≤ (wr.alloc (.cells #[.bool false, .int .i64 xi, .string xs'] 38)).heap.size) := hid (Nat.le_trans HB.out.size HBA.out.size)
      have HRW : Hid (Row (wr.alloc (.cells #[.bool false, .int .i64 xi, .string xs'] 38)) wr.heap.size 38 [.bool false, .int .i64 xi, .string xs']) := hid (by unfold Row; rw [heap_alloc_new])
      have HBB := hid (HB.out.trans ((HBA.out).mono HB.out.size))
      have hbw : b < wr.heap.size := World.block_lt_of_cell? wr _ l0
      have HBW := hid hbw
      clear HE HF hbw
      go_upto_region 5 with fail
      generalize wr.alloc (.cells #[.bool false, .int .i64 xi, .string xs'] 38) = w4 at *
      have k0 : w4.cell? ⟨wr.heap.size, 0, none⟩ = some (.bool false) := by rw [HRW.out.cell]; rfl
      have k1 : w4.cell? ⟨wr.heap.size, 1, none⟩ = some (.int .i64 xi) := by rw [HRW.out.cell]; rfl
      have k2 : w4.cell? ⟨wr.heap.size, 2, none⟩ = some (.string xs') := by rw [HRW.out.cell]; rfl
      have HQW := hid (World.block_lt_of_cell? w4 _ k0)
      simp only at HQW
      by_cases hlast : t + 1 = vs.length
      · have HEN : Hid (endAt vs t = true) := hid (by rw [HXY.out]; simp [hlast])
        have i0 : ((t : Int) + 1 == (vs.length : Int)) = true := by simp; omega
        clear l0 l1 l2
        go_quiet (fail)
        have HQD : Hid (Below w4.heap.size w4 (w4.drewN nq)) := hid (bdrew (brefl w4) nq)
        generalize w4.drewN nq = wq at *
        have HEQ2 := hid (owns3_below HEA.out HQD.out)
        have HFQ2 := hid (owns3_below HFA.out HQD.out)
        have HBD := hid (HBB.out.trans (HQD.out.mono HSZ.out))
        have HSQ := hid (Nat.le_trans HSZ.out HQD.out.size)
        have j0 := (HQD.out.cell (p := ⟨wr.heap.size, 0, none⟩) HQW.out).trans k0
        have j1 := (HQD.out.cell (p := ⟨wr.heap.size, 1, none⟩) HQW.out).trans k1
        have j2 := (HQD.out.cell (p := ⟨wr.heap.size, 2, none⟩) HQW.out).trans k2
        clear k0 k1 k2
        have HKQ := hid (And.intro j0 (And.intro j1 j2))
        clear j0 j1 j2
        have HEB := hid (fun k hk => Nat.lt_of_lt_of_le (HEQ.out k hk) (Nat.le_of_lt HQW.out))
        generalize wr.heap.size = q at *
        go_upto_region 7 with (at_builtin; go_loud (refine wpList_append3K rfl (.tmp 34) (.tmp 38) rfl 38 [.bool false, .int .i64 0, .string ByteArray.empty] 32 Tryz.underlying26 Tryz.infoCell rfl rfl rfl HEQ2.out HSQ.out (by intro u hu; simp at hu; rcases hu with rfl | rfl | rfl <;> rfl) (by have := HV9.out; unfold maxLen; omega) (by have := HV9.out; omega) ?_); intro v5 w5 ho5 hb5 hz5 hk5; have HO5 := hid ho5; have HB5 := hid hb5; have HZ5 := hid hz5; have HK5 := hid hk5; clear ho5 hb5 hz5 hk5)
        obtain ⟨k0, k1, k2⟩ := HKQ.out
        replace k0 := HK5.out.cell k0 (fun h => by have := HEQ.out _ h.symm; omega)
        replace k1 := HK5.out.cell k1 (fun h => by have := HEQ.out _ h.symm; omega)
        replace k2 := HK5.out.cell k2 (fun h => by have := HEQ.out _ h.symm; omega)
        have HF5 := hid (owns_kp HFQ2.out HK5.out HAP.out)
        have HAP5 := hid (HAP.out.left HK5.out (fun k hk => (HFQ2.out.lt k hk).2))
        have HS5 := hid (Nat.le_trans HSQ.out HZ5.out)
        obtain ⟨E2, ce2, rfl⟩ := owns3_form HO5.out
        go_wp2_with (at_builtin; refine wpList_append3K rfl (.tmp 40) (.tmp 42) rfl 38 [.bool false, .int .i64 0, .string ByteArray.empty] 32 Tryz.underlying26 Tryz.infoCell rfl rfl rfl HF5.out HS5.out (by intro u hu; simp at hu; rcases hu with rfl | rfl | rfl <;> rfl) (by have := HV9.out; unfold maxLen; omega) (by have := HV9.out; omega) ?_; intro v6 w6 ho6 hb6 hz6 hk6; have HO6 := hid ho6; have HB6 := hid hb6; have HZ6 := hid hz6; have HK6 := hid hk6; clear ho6 hb6 hz6 hk6)
        have HE6 := hid (owns_kp HO5.out HK6.out HAP5.out.symm)
        have HAP6 := hid (HAP5.out.right HK6.out (fun k hk => (HO5.out.lt k hk).2))
        go_roundw
        case rel =>
          have G1 : Hid ((runEndsL vs (t + 1)).length = m + 1) := hid (by rw [HSE.out, if_pos HEN.out, List.length_append, HM.out]; rfl)
          have G2 : Hid (cellsP ((runEndsL vs (t + 1)).map pN) = cellsP (es.map pN) ++ [.bool false, .int .i64 ((t : Int) + 1), .string ByteArray.empty]) := hid (by rw [HSE.out, if_pos HEN.out, List.map_append, List.map_cons, List.map_nil, cellsP_snoc]; simp [pN])
          have G3 : Hid (cellsP (runHeads vs (t + 1)) = cellsP hs ++ [.bool false, .int .i64 xi, .string xs']) := hid (by rw [HSF.out, if_pos HEN.out, cellsP_snoc])
          exact ⟨t + 1, by omega, by go_num, hid (by rw [G1.out, G2.out]; exact HE6.out), hid (by rw [G1.out, G3.out]; exact HO6.out), HAP6, hid (HBD.out.trans (HB5.out.trans HB6.out))⟩
        case measure => simp [intOf]; omega
      · obtain ⟨m0, m1, m2⟩ := HC.out (t + 1) (by omega)
        generalize vs.getD (t + 1) dfP = Y at *
        obtain ⟨yi, ys'⟩ := Y
        simp only at m1 m2 HXY HO
        replace m0 := (HBA.out.cell (p := ⟨b, o + (t + 1) * 3, none⟩) HBW.out).trans m0
        replace m1 := (HBA.out.cell (p := ⟨b, o + (t + 1) * 3 + 1, none⟩) HBW.out).trans m1
        replace m2 := (HBA.out.cell (p := ⟨b, o + (t + 1) * 3 + 2, none⟩) HBW.out).trans m2
        have i0 : ((t : Int) + 1 == (vs.length : Int)) = false := by simp; omega
        have iw : IntKind.i64.wrap ((t : Int) + 1) = (t : Int) + 1 := by rw [IntKind.wrap_i64]; omega
        have ig1 : (0 : Int) ≤ (t : Int) + 1 := by omega
        have ig2 : (t : Int) + 1 < (vs.length : Int) := by omega
        generalize ordP (xi, xs') (yi, ys') = od at *
        have hbl : b < w4.heap.size := Nat.lt_of_lt_of_le HBW.out (Nat.le_of_lt HQW.out)
        have hql : wr.heap.size < w4.heap.size := HQW.out
        clear l0 l1 l2
        go_region_held3 (fun w' => w'.cell? ⟨wr.heap.size, 0, none⟩ = some (.bool false) ∧ w'.cell? ⟨wr.heap.size, 1, none⟩ = some (.int .i64 xi) ∧ w'.cell? ⟨wr.heap.size, 2, none⟩ = some (.string xs') ∧ w'.cell? ⟨b, o + (t + 1) * 3, none⟩ = some (.bool false) ∧ w'.cell? ⟨b, o + (t + 1) * 3 + 1, none⟩ = some (.int .i64 yi) ∧ w'.cell? ⟨b, o + (t + 1) * 3 + 2, none⟩ = some (.string ys')) (go_keep)
          (first | (go_at_call 77; refine (HO.out _).mono ?_; rintro e w3 ⟨rfl, hb3⟩; have HQD := hid ((bdrew (brefl w4) 1).trans hb3); have q0 := (hb3.cell (p := ⟨wr.heap.size, 0, none⟩) hql).trans k0; have q1 := (hb3.cell (p := ⟨wr.heap.size, 1, none⟩) hql).trans k1; have q2 := (hb3.cell (p := ⟨wr.heap.size, 2, none⟩) hql).trans k2; have q3 := (hb3.cell (p := ⟨b, o + (t + 1) * 3, none⟩) hbl).trans m0; have q4 := (hb3.cell (p := ⟨b, o + (t + 1) * 3 + 1, none⟩) hbl).trans m1; have q5 := (hb3.cell (p := ⟨b, o + (t + 1) * 3 + 2, none⟩) hbl).trans m2; clear hb3))
        clear m0 m1 m2 q0 q1 q2 q3 q4 q5 hbl hql
        generalize w3 = wq at *
        by_cases hod : od = 0
        · have HEN : Hid (endAt vs t = false) := hid (by rw [HXY.out]; simp [hod]; omega)
          have ho2 : (od != 0) = false := by simp [hod]
          have HEQ2 := hid (owns3_below HEA.out HQD.out)
          have HFQ2 := hid (owns3_below HFA.out HQD.out)
          have HBD := hid (HBB.out.trans (HQD.out.mono HSZ.out))
          clear k0 k1 k2
          generalize wr.heap.size = q at *
          rw [ho2]
          go_wp2_with fail
          go_roundw
          case rel => exact ⟨t + 1, by omega, by go_num, hid (by rw [HSE.out, if_neg (by rw [HEN.out]; decide), HM.out]; exact HEQ2.out), hid (by rw [HSE.out, HSF.out, if_neg (by rw [HEN.out]; decide), if_neg (by rw [HEN.out]; decide), HM.out]; exact HFQ2.out), HAP, HBD⟩
          case measure => simp [intOf]; omega
        have HEN : Hid (endAt vs t = true) := hid (by rw [HXY.out]; simp [hod])
        have ho2 : (od != 0) = true := by simp [hod]
        rw [ho2]
        have HEQ2 := hid (owns3_below HEA.out HQD.out)
        have HFQ2 := hid (owns3_below HFA.out HQD.out)
        have HBD := hid (HBB.out.trans (HQD.out.mono HSZ.out))
        have HSQ := hid (Nat.le_trans HSZ.out HQD.out.size)
        have j0 := (HQD.out.cell (p := ⟨wr.heap.size, 0, none⟩) HQW.out).trans k0
        have j1 := (HQD.out.cell (p := ⟨wr.heap.size, 1, none⟩) HQW.out).trans k1
        have j2 := (HQD.out.cell (p := ⟨wr.heap.size, 2, none⟩) HQW.out).trans k2
        clear k0 k1 k2
        have HKQ := hid (And.intro j0 (And.intro j1 j2))
        clear j0 j1 j2
        have HEB := hid (fun k hk => Nat.lt_of_lt_of_le (HEQ.out k hk) (Nat.le_of_lt HQW.out))
        generalize wr.heap.size = q at *
        go_upto_region 7 with (at_builtin; go_loud (refine wpList_append3K rfl (.tmp 34) (.tmp 38) rfl 38 [.bool false, .int .i64 0, .string ByteArray.empty] 32 Tryz.underlying26 Tryz.infoCell rfl rfl rfl HEQ2.out HSQ.out (by intro u hu; simp at hu; rcases hu with rfl | rfl | rfl <;> rfl) (by have := HV9.out; unfold maxLen; omega) (by have := HV9.out; omega) ?_); intro v5 w5 ho5 hb5 hz5 hk5; have HO5 := hid ho5; have HB5 := hid hb5; have HZ5 := hid hz5; have HK5 := hid hk5; clear ho5 hb5 hz5 hk5)
        obtain ⟨k0, k1, k2⟩ := HKQ.out
        replace k0 := HK5.out.cell k0 (fun h => by have := HEQ.out _ h.symm; omega)
        replace k1 := HK5.out.cell k1 (fun h => by have := HEQ.out _ h.symm; omega)
        replace k2 := HK5.out.cell k2 (fun h => by have := HEQ.out _ h.symm; omega)
        have HF5 := hid (owns_kp HFQ2.out HK5.out HAP.out)
        have HAP5 := hid (HAP.out.left HK5.out (fun k hk => (HFQ2.out.lt k hk).2))
        have HS5 := hid (Nat.le_trans HSQ.out HZ5.out)
        obtain ⟨E2, ce2, rfl⟩ := owns3_form HO5.out
        go_wp2_with (at_builtin; refine wpList_append3K rfl (.tmp 40) (.tmp 42) rfl 38 [.bool false, .int .i64 0, .string ByteArray.empty] 32 Tryz.underlying26 Tryz.infoCell rfl rfl rfl HF5.out HS5.out (by intro u hu; simp at hu; rcases hu with rfl | rfl | rfl <;> rfl) (by have := HV9.out; unfold maxLen; omega) (by have := HV9.out; omega) ?_; intro v6 w6 ho6 hb6 hz6 hk6; have HO6 := hid ho6; have HB6 := hid hb6; have HZ6 := hid hz6; have HK6 := hid hk6; clear ho6 hb6 hz6 hk6)
        have HE6 := hid (owns_kp HO5.out HK6.out HAP5.out.symm)
        have HAP6 := hid (HAP5.out.right HK6.out (fun k hk => (HO5.out.lt k hk).2))
        go_roundw
        case rel =>
          have G1 : Hid ((runEndsL vs (t + 1)).length = m + 1) := hid (by rw [HSE.out, if_pos HEN.out, List.length_append, HM.out]; rfl)
          have G2 : Hid (cellsP ((runEndsL vs (t + 1)).map pN) = cellsP (es.map pN) ++ [.bool false, .int .i64 ((t : Int) + 1), .string ByteArray.empty]) := hid (by rw [HSE.out, if_pos HEN.out, List.map_append, List.map_cons, List.map_nil, cellsP_snoc]; simp [pN])
          have G3 : Hid (cellsP (runHeads vs (t + 1)) = cellsP hs ++ [.bool false, .int .i64 xi, .string xs']) := hid (by rw [HSF.out, if_pos HEN.out, cellsP_snoc])
          exact ⟨t + 1, by omega, by go_num, hid (by rw [G1.out, G2.out]; exact HE6.out), hid (by rw [G1.out, G3.out]; exact HO6.out), HAP6, hid (HBD.out.trans (HB5.out.trans HB6.out))⟩
        case measure => simp [intOf]; omega
    · obtain rfl : t = vs.length := by omega
      have HML := hid (runEndsL_len vs vs.length)
      have HMX := hid (runEndsL_lt vs vs.length)
      have HHL := hid (runHeads_len vs vs.length)
      unfold runsB at HRR
      generalize runEndsL vs vs.length = es at *
      generalize runHeads vs vs.length = hs at *
      obtain ⟨m, hm⟩ : ∃ m, es.length = m := ⟨_, rfl⟩
      have HM := hid hm
      rw [hm] at HE HF HML HHL HRR
      have hm32 : m ≤ 1048576 := by have := HML.out; omega
      clear hm
      obtain ⟨E1, ce1, rfl⟩ := owns3_form HE.out
      obtain ⟨F1, cf1, rfl⟩ := owns3_form HF.out
      have HE' := hid (owns3_rd HE.out)
      have HF' := hid (owns3_rd HF.out)
      have hmu : IntKind.u64.wrap (m : Int) = (m : Int) := by rw [IntKind.wrap_u64]; omega
      have HN0 := hid (putNumber_any wr.heap.size (.slice none 0 0) [] m 4 wr (OwnB.nil _ _) (Nat.le_refl _) (by omega) (by omega) (by simp))
      rw [List.nil_append] at HN0
      clear HE HF HAP HU
      have HHH : Hid ((leN 4 m).length = 4) := hid (leN_length 4 m)
      generalize leN 4 m = hd at *
      go_wp2_with (go_at_call 41; refine HN0.out.mono ?_; rintro e w1 ⟨r, rfl, h1, h2, h3, h4⟩; obtain ⟨A3, c3, rfl, _, _, _, _⟩ := owns_form h1; have H1 := hid h1; have H2 := hid h2; have H3 := hid h3; clear h1 h2 h3 h4)
      generalize wr = w2 at *
      go_loopw [9, 51] (fun r i wz => ∃ t : Nat, t ≤ m ∧ i = .int .i64 t ∧ Hid (OwnB w2.heap.size wz r (hd ++ le4N (es.take t))) ∧ Hid (Below w2.heap.size w2 wz)) (fun _ i _ => m - (intOf i).toNat)
      case atStart => exact ⟨0, by omega, rfl, hid (by rw [show hd ++ le4N (es.take 0) = hd by simp [le4N]]; exact H1.out), H2⟩
      case round =>
        obtain ⟨t, ht, rfl, HOW, HB1⟩ := hrel
        by_cases hlt : t < m
        · obtain ⟨eb, eo, rfl, hec⟩ := (HE'.out.mono HB1.out).atP (by omega)
          obtain ⟨l0, l1, l2⟩ := hec t (by rw [List.length_map, HM.out]; exact hlt)
          rw [pN_get es t (by rw [HM.out]; exact hlt)] at l1 l2
          have HX := hid (HMX.out (es.getD t 0) (by simp [List.getD, List.getElem?_eq_getElem (show t < es.length by rw [HM.out]; exact hlt)]))
          have HST : Hid (hd ++ le4N (es.take (t + 1)) = (hd ++ le4N (es.take t)) ++ leN 4 (es.getD t 0)) := hid (by rw [take_snoc es 0 t (by rw [HM.out]; exact hlt), le4N_snoc, List.append_assoc])
          have HLEN : Hid ((hd ++ le4N (es.take t)).length = 4 + 4 * t) := hid (by rw [List.length_append, HHH.out, le4N_len, List.length_take, HM.out, Nat.min_eq_left (by omega)])
          simp only [pN] at l1 l2
          clear hec
          generalize es.getD t 0 = x at *
          have hx32 := HX.out
          have hwu : IntKind.u64.wrap (x : Int) = (x : Int) := by rw [IntKind.wrap_u64]; omega
          generalize hd ++ le4N (es.take t) = cs at *
          obtain ⟨A4, c4, rfl⟩ := HOW.out.form
          have HN := hid (fun (w5 : World) (h : Below wr.heap.size wr w5) => putNumber_any w2.heap.size _ cs x 4 w5 (HOW.out.below h) (Nat.le_trans HB1.out.size h.size) (by omega) (by omega) (by have := HLEN.out; omega))
          generalize cs ++ leN 4 x = R2 at *
          have HBA := hid ((brefl wr).alloc (Nat.le_refl _) (.cells #[.bool false, .int .i64 x, .string ByteArray.empty] 38))
          have HBZ := hid HB1.out.size
          go_wp2_with (go_at_call 41; refine (HN.out _ ((brefl wr).alloc (Nat.le_refl _) _)).mono ?_; rintro e w3 ⟨r, rfl, h1, h2, h3, h4⟩; obtain ⟨A3, c3, rfl, _, _, _, _⟩ := owns_form h1; have K1 := hid h1; have K2 := hid h2; clear h1 h2 h3 h4)
          go_roundw
          case rel => exact ⟨t + 1, by omega, by go_num, hid (by rw [HST.out]; exact K1.out), hid (Below.trans HB1.out (Below.trans (HBA.out.mono HBZ.out) K2.out))⟩
          case measure => simp [intOf]; omega
        · obtain rfl : t = m := by omega
          have htk : es.take t = es := by rw [← HM.out, List.take_length]
          rw [htk] at HOW
          have HLEN : Hid ((hd ++ le4N es).length = 4 + 4 * t) := hid (by rw [List.length_append, HHH.out, le4N_len, HM.out])
          generalize hd ++ le4N es = cs at *
          obtain ⟨A4, c4, rfl⟩ := HOW.out.form
          have hpl := putList_any kd hkd w2.heap.size _ (.slice F1 t cf1) cs hs wr HOW.out (Stay.low (by rw [HHL.out]; exact HF'.out) HB1.out (Nat.le_refl _)) HB1.out.size (by have := HLEN.out; omega) (by rw [HHL.out]; omega) HSUM.out
          rw [HRR.out] at hpl
          have HPL := hid hpl
          clear hpl htk
          go_wp2_with (go_at_call 61; refine HPL.out.mono ?_; rintro e w3 ⟨r, rfl, h1, h2, h3, h4⟩; obtain ⟨A5, c5, rfl⟩ := h1.form; have K1 := hid h1; have K2 := hid h2; clear h1 h2 h3 h4)
          go_ret
          exact ⟨_, rfl, owns_low K1.out HB.out.size, HB.out.trans ((HB1.out.trans K2.out).mono HB.out.size)⟩
end Go.Proofs.YtdlkdiaobbakiaaGreatDoor

/- The plain answer: the smallest and the greatest of values. -/
set_option linter.unusedVariables false
set_option linter.unusedSimpArgs false
set_option linter.unnecessarySimpa false
set_option maxRecDepth 100000
namespace Go.Proofs.YtdlkdiaobbakiaaGreatDoor
open Go.RowKit

def zeroP : PV := (0, ByteArray.empty)
def minP : List PV → PV
  | [] => zeroP
  | v :: r => r.foldl (fun m x => if ordP x m < 0 then x else m) v
def maxP : List PV → PV
  | [] => zeroP
  | v :: r => r.foldl (fun m x => if 0 < ordP x m then x else m) v
theorem minP_snoc (vs : List PV) (v : PV) : minP (vs ++ [v]) = if vs = [] ∨ ordP v (minP vs) < 0 then v else minP vs := by
  cases vs with
  | nil => simp [minP]
  | cons a r => simp [minP]
theorem maxP_snoc (vs : List PV) (v : PV) : maxP (vs ++ [v]) = if vs = [] ∨ 0 < ordP v (maxP vs) then v else maxP vs := by
  cases vs with
  | nil => simp [maxP]
  | cons a r => simp [maxP]
/-- a value as a cell, in memory -/
def pvc (v : PV) : List Value := [.bool false, .int .i64 v.1, .string v.2]
def pva (v : PV) : Value := .agg #[.bool false, .int .i64 v.1, .string v.2]
structure ExS (w0 : World) (s : Nat) (w : World) (m M : PV) : Prop where
  r0 : Row w s 38 (pvc zeroP)
  r1 : Row w (s + 1) 38 (pvc zeroP)
  r2 : Row w (s + 1 + 1) 38 (pvc m)
  r3 : Row w (s + 1 + 1 + 1) 38 (pvc M)
  bl : Below s w0 w
  sz : s + 4 ≤ w.heap.size
theorem ExS.step {w0 : World} {s : Nat} {w w' : World} {m M : PV} (h : ExS w0 s w m M) (hb : Below w.heap.size w w') : ExS w0 s w' m M :=
  ⟨h.r0.mono hb, h.r1.mono hb, h.r2.mono hb, h.r3.mono hb, Below.trans h.bl (hb.mono (by have := h.sz; omega)), Nat.le_trans h.sz hb.size⟩
theorem setc3_size (w : World) (p : Nat) (cs : List Value) : (setc3 w p cs).heap.size = w.heap.size := by simp [setc3, World.setCell]
theorem setc3_other {w : World} {g p : Nat} {e : TypeId} {cs : List Value} (h : Row w g e cs) (ds : List Value) (hne : g ≠ p) : Row (setc3 w p ds) g e cs := by
  unfold setc3
  exact ((h.other (a := ⟨p, 0, none⟩) _ hne).other (a := ⟨p, 1, none⟩) _ hne).other (a := ⟨p, 2, none⟩) _ hne
theorem ExS.setm {w0 : World} {s : Nat} {w : World} {m M : PV} (h : ExS w0 s w m M) (v : PV) : ExS w0 s (setc3 w (s + 1 + 1) (pvc v)) v M :=
  ⟨setc3_other h.r0 _ (by omega), setc3_other h.r1 _ (by omega), row_setc3 h.r2 _ _ _, setc3_other h.r3 _ (by omega), below_setc3 h.bl _ (by omega) _, by rw [setc3_size]; exact h.sz⟩
theorem ExS.setM {w0 : World} {s : Nat} {w : World} {m M : PV} (h : ExS w0 s w m M) (v : PV) : ExS w0 s (setc3 w (s + 1 + 1 + 1) (pvc v)) m v :=
  ⟨setc3_other h.r0 _ (by omega), setc3_other h.r1 _ (by omega), setc3_other h.r2 _ (by omega), row_setc3 h.r3 _ _ _, below_setc3 h.bl _ (by omega) _, by rw [setc3_size]; exact h.sz⟩
theorem ex_start (w : World) : ExS w w.heap.size ((((w.alloc (.cells #[.bool false, .int .i64 0, .string ByteArray.empty] 38)).alloc (.cells #[.bool false, .int .i64 0, .string ByteArray.empty] 38)).alloc (.cells #[.bool false, .int .i64 0, .string ByteArray.empty] 38)).alloc (.cells #[.bool false, .int .i64 0, .string ByteArray.empty] 38)) zeroP zeroP := by
  have hr : ∀ w2 : World, Row (w2.alloc (.cells #[.bool false, .int .i64 0, .string ByteArray.empty] 38)) w2.heap.size 38 (pvc zeroP) := fun w2 => by unfold Row; rw [heap_alloc_new]; rfl
  have hb : ∀ w2 : World, Below w2.heap.size w2 (w2.alloc (.cells #[.bool false, .int .i64 0, .string ByteArray.empty] 38)) := fun w2 => (brefl w2).alloc (Nat.le_refl _) _
  refine ⟨(((hr w).mono (hb _)).mono (hb _)).mono (hb _), ?_, ?_, ?_, ?_, by simp⟩
  · have h := (((hr (w.alloc (.cells #[.bool false, .int .i64 0, .string ByteArray.empty] 38))).mono (hb _)).mono (hb _))
    simpa using h
  · have h := (hr ((w.alloc (.cells #[.bool false, .int .i64 0, .string ByteArray.empty] 38)).alloc (.cells #[.bool false, .int .i64 0, .string ByteArray.empty] 38))).mono (hb _)
    simpa using h
  · have h := hr (((w.alloc (.cells #[.bool false, .int .i64 0, .string ByteArray.empty] 38)).alloc (.cells #[.bool false, .int .i64 0, .string ByteArray.empty] 38)).alloc (.cells #[.bool false, .int .i64 0, .string ByteArray.empty] 38))
    simpa using h
  · exact bthen (bthen (bthen (hb w) (hb _)) (hb _)) (hb _)

set_option maxHeartbeats 8000000 in
theorem extremes_any (u : Value) (vs : List PV) (w : World) (hu : Rd w u vs.length 3 (cellsP vs)) (hl : vs.length ≤ 1048576) :
    Calls Tryz.prog 65 #[u] w fun e w' => e = .returned (.tuple #[pva (minP vs), pva (maxP vs)]) ∧ Below w.heap.size w w' := by
  have HU := hid hu
  obtain ⟨A1, c1, rfl, _, _, _⟩ := hu.form
  obtain ⟨m9, hm9⟩ : ∃ m9, minP vs = m9 := ⟨_, rfl⟩
  obtain ⟨M9, hM9⟩ : ∃ M9, maxP vs = M9 := ⟨_, rfl⟩
  have HM9 := hid (And.intro hm9 hM9)
  rw [hm9, hM9]
  have HST := hid (ex_start w)
  clear hu hm9 hM9
  go_enter Tryz.func65, Tryz.ntmps65
  go_wp2_with fail
  have HU1 := hid (fun (w2 : World) (h : Below w.heap.size w w2) => HU.out.mono h)
  obtain ⟨s, hs⟩ : ∃ s, w.heap.size = s := ⟨_, rfl⟩
  have HSE := hid hs
  rw [hs] at HST HU1
  simp only [hs]
  clear hs HU
  go_loopw [10] (fun i wr => ∃ t : Nat, t ≤ vs.length ∧ i = .int .i64 t ∧ Hid (ExS w s wr (minP (vs.take t)) (maxP (vs.take t)))) (fun i _ => vs.length - (intOf i).toNat)
  case atStart => exact ⟨0, by omega, rfl, hid HST.out⟩
  case round =>
    obtain ⟨t, ht, rfl, HS⟩ := hrel
    by_cases hlt : t < vs.length
    · obtain ⟨b, o, rfl, hcells⟩ := (HU1.out wr HS.out.bl).atP (by omega)
      obtain ⟨l0, l1, l2⟩ := hcells t hlt
      have HM := hid (minP_snoc (vs.take t) (vs.getD t dfP))
      have HX := hid (maxP_snoc (vs.take t) (vs.getD t dfP))
      rw [← take_snoc vs dfP t hlt] at HM HX
      have hnil : (vs.take t = []) = (t = 0) := by
        rw [List.take_eq_nil_iff]
        have : vs ≠ [] := fun h => by rw [h] at hlt; simp at hlt
        simp [this]
      simp only [hnil] at HM HX
      have HO1 := hid (fun (w2 : World) => order_any (vs.getD t dfP) (minP (vs.take t)) w2)
      have HO2 := hid (fun (w2 : World) => order_any (vs.getD t dfP) (maxP (vs.take t)) w2)
      clear hcells hnil
      generalize minP (vs.take t) = m at *
      generalize maxP (vs.take t) = M at *
      generalize vs.getD t dfP = X at *
      obtain ⟨xi, xs'⟩ := X
      obtain ⟨mi, ms⟩ := m
      obtain ⟨Mi, Ms⟩ := M
      simp only at l1 l2 HO1 HO2
      generalize ordP (xi, xs') (mi, ms) = om at *
      generalize ordP (xi, xs') (Mi, Ms) = oM at *
      have HBA := hid ((brefl wr).alloc (Nat.le_refl _) (.cells #[.bool false, .int .i64 xi, .string xs'] 38))
      have HRW : Hid (Row (wr.alloc (.cells #[.bool false, .int .i64 xi, .string xs'] 38)) wr.heap.size 38 [.bool false, .int .i64 xi, .string xs']) := hid (by unfold Row; rw [heap_alloc_new])
      have HS4 := hid (HS.out.step HBA.out)
      have HQ := hid HS.out.sz
      go_upto_region 5 with fail
      generalize wr.alloc (.cells #[.bool false, .int .i64 xi, .string xs'] 38) = w4 at *
      obtain ⟨q, hq⟩ : ∃ q, wr.heap.size = q := ⟨_, rfl⟩
      rw [hq] at HRW HQ ⊢
      clear hq HBA l0 l1 l2
      have hq2 : q ≠ s + 1 + 1 := by have := HQ.out; omega
      have hq3 : q ≠ s + 1 + 1 + 1 := by have := HQ.out; omega
      have k0 : w4.cell? ⟨q, 0, none⟩ = some (.bool false) := by rw [HRW.out.cell]; rfl
      have k1 : w4.cell? ⟨q, 1, none⟩ = some (.int .i64 xi) := by rw [HRW.out.cell]; rfl
      have k2 : w4.cell? ⟨q, 2, none⟩ = some (.string xs') := by rw [HRW.out.cell]; rfl
      rcases Nat.eq_zero_or_pos t with ht0 | ht0
      · subst ht0
        have m0 : w4.cell? ⟨s + 1 + 1, 0, none⟩ = some (.bool false) := by rw [HS4.out.r2.cell]; rfl
        have m1 : w4.cell? ⟨s + 1 + 1, 1, none⟩ = some (.int .i64 mi) := by rw [HS4.out.r2.cell]; rfl
        have m2 : w4.cell? ⟨s + 1 + 1, 2, none⟩ = some (.string ms) := by rw [HS4.out.r2.cell]; rfl
        have f0 : w4.frozen? ⟨s + 1 + 1, 0, none⟩ = false := HS4.out.r2.frozen 0
        have f1 : w4.frozen? ⟨s + 1 + 1, 1, none⟩ = false := HS4.out.r2.frozen 1
        have f2 : w4.frozen? ⟨s + 1 + 1, 2, none⟩ = false := HS4.out.r2.frozen 2
        go_upto_region 7 with fail
        change Code.wp _ _ _ _ (setc3 w4 (s + 1 + 1) (pvc (xi, xs')))
        have HS5 := hid (HS4.out.setm (xi, xs'))
        have HKw5 := hid (show (setc3 w4 (s + 1 + 1) (pvc (xi, xs'))).cell? ⟨q, 0, none⟩ = some (.bool false) ∧ (setc3 w4 (s + 1 + 1) (pvc (xi, xs'))).cell? ⟨q, 1, none⟩ = some (.int .i64 xi) ∧ (setc3 w4 (s + 1 + 1) (pvc (xi, xs'))).cell? ⟨q, 2, none⟩ = some (.string xs') from ⟨(cell_set3 _ _ _ _ _ _ _ hq2).trans k0, (cell_set3 _ _ _ _ _ _ _ hq2).trans k1, (cell_set3 _ _ _ _ _ _ _ hq2).trans k2⟩)
        clear m0 m1 m2 f0 f1 f2 k0 k1 k2
        generalize setc3 w4 (s + 1 + 1) (pvc (xi, xs')) = w5 at *
        obtain ⟨k0, k1, k2⟩ := HKw5.out
        have m0 : w5.cell? ⟨s + 1 + 1 + 1, 0, none⟩ = some (.bool false) := by rw [HS5.out.r3.cell]; rfl
        have m1 : w5.cell? ⟨s + 1 + 1 + 1, 1, none⟩ = some (.int .i64 Mi) := by rw [HS5.out.r3.cell]; rfl
        have m2 : w5.cell? ⟨s + 1 + 1 + 1, 2, none⟩ = some (.string Ms) := by rw [HS5.out.r3.cell]; rfl
        have f0 : w5.frozen? ⟨s + 1 + 1 + 1, 0, none⟩ = false := HS5.out.r3.frozen 0
        have f1 : w5.frozen? ⟨s + 1 + 1 + 1, 1, none⟩ = false := HS5.out.r3.frozen 1
        have f2 : w5.frozen? ⟨s + 1 + 1 + 1, 2, none⟩ = false := HS5.out.r3.frozen 2
        go_upto_region 9 with fail
        change Code.wp _ _ _ _ (setc3 w5 (s + 1 + 1 + 1) (pvc (xi, xs')))
        have HS6 := hid (HS5.out.setM (xi, xs'))
        have HKw6 := hid (show (setc3 w5 (s + 1 + 1 + 1) (pvc (xi, xs'))).cell? ⟨q, 0, none⟩ = some (.bool false) ∧ (setc3 w5 (s + 1 + 1 + 1) (pvc (xi, xs'))).cell? ⟨q, 1, none⟩ = some (.int .i64 xi) ∧ (setc3 w5 (s + 1 + 1 + 1) (pvc (xi, xs'))).cell? ⟨q, 2, none⟩ = some (.string xs') from ⟨(cell_set3 _ _ _ _ _ _ _ hq3).trans k0, (cell_set3 _ _ _ _ _ _ _ hq3).trans k1, (cell_set3 _ _ _ _ _ _ _ hq3).trans k2⟩)
        clear m0 m1 m2 f0 f1 f2 k0 k1 k2
        generalize setc3 w5 (s + 1 + 1 + 1) (pvc (xi, xs')) = w6 at *
        obtain ⟨k0, k1, k2⟩ := HKw6.out
        go_wp2_with fail
        go_roundw
        case rel => exact ⟨0 + 1, by omega, by go_num, hid (by rw [HM.out, HX.out, if_pos (.inl rfl), if_pos (.inl rfl)]; exact HS6.out)⟩
        case measure => simp [intOf]; omega
      · have i0 : ((t : Int) == 0) = false := by simp; omega
        have n0 : ¬ t = 0 := by omega
        have m0 : w4.cell? ⟨s + 1 + 1, 0, none⟩ = some (.bool false) := by rw [HS4.out.r2.cell]; rfl
        have m1 : w4.cell? ⟨s + 1 + 1, 1, none⟩ = some (.int .i64 mi) := by rw [HS4.out.r2.cell]; rfl
        have m2 : w4.cell? ⟨s + 1 + 1, 2, none⟩ = some (.string ms) := by rw [HS4.out.r2.cell]; rfl
        have hqw : q < w4.heap.size := World.block_lt_of_cell? w4 _ k0
        by_cases hom : om < 0
        · go_upto_region 6 with (go_at_call 77; refine (HO1.out _).mono ?_; rintro e w5 ⟨rfl, hb5⟩; have HB5 := hid hb5; clear hb5)
          have HS5 := hid (HS4.out.step HB5.out)
          have j0 := (HB5.out.cell (p := ⟨q, 0, none⟩) hqw).trans k0
          have j1 := (HB5.out.cell (p := ⟨q, 1, none⟩) hqw).trans k1
          have j2 := (HB5.out.cell (p := ⟨q, 2, none⟩) hqw).trans k2
          clear m0 m1 m2 k0 k1 k2
          have k0 := j0
          have k1 := j1
          have k2 := j2
          clear j0 j1 j2 hqw
          have m0 : w5.cell? ⟨s + 1 + 1, 0, none⟩ = some (.bool false) := by rw [HS5.out.r2.cell]; rfl
          have m1 : w5.cell? ⟨s + 1 + 1, 1, none⟩ = some (.int .i64 mi) := by rw [HS5.out.r2.cell]; rfl
          have m2 : w5.cell? ⟨s + 1 + 1, 2, none⟩ = some (.string ms) := by rw [HS5.out.r2.cell]; rfl
          have f0 : w5.frozen? ⟨s + 1 + 1, 0, none⟩ = false := HS5.out.r2.frozen 0
          have f1 : w5.frozen? ⟨s + 1 + 1, 1, none⟩ = false := HS5.out.r2.frozen 1
          have f2 : w5.frozen? ⟨s + 1 + 1, 2, none⟩ = false := HS5.out.r2.frozen 2
          go_upto_region 7 with fail
          change Code.wp _ _ _ _ (setc3 w5 (s + 1 + 1) (pvc (xi, xs')))
          have HS6 := hid (HS5.out.setm (xi, xs'))
          have HKw6 := hid (show (setc3 w5 (s + 1 + 1) (pvc (xi, xs'))).cell? ⟨q, 0, none⟩ = some (.bool false) ∧ (setc3 w5 (s + 1 + 1) (pvc (xi, xs'))).cell? ⟨q, 1, none⟩ = some (.int .i64 xi) ∧ (setc3 w5 (s + 1 + 1) (pvc (xi, xs'))).cell? ⟨q, 2, none⟩ = some (.string xs') from ⟨(cell_set3 _ _ _ _ _ _ _ hq2).trans k0, (cell_set3 _ _ _ _ _ _ _ hq2).trans k1, (cell_set3 _ _ _ _ _ _ _ hq2).trans k2⟩)
          clear m0 m1 m2 f0 f1 f2 k0 k1 k2
          generalize setc3 w5 (s + 1 + 1) (pvc (xi, xs')) = w6 at *
          obtain ⟨k0, k1, k2⟩ := HKw6.out
          have m0 : w6.cell? ⟨s + 1 + 1 + 1, 0, none⟩ = some (.bool false) := by rw [HS6.out.r3.cell]; rfl
          have m1 : w6.cell? ⟨s + 1 + 1 + 1, 1, none⟩ = some (.int .i64 Mi) := by rw [HS6.out.r3.cell]; rfl
          have m2 : w6.cell? ⟨s + 1 + 1 + 1, 2, none⟩ = some (.string Ms) := by rw [HS6.out.r3.cell]; rfl
          have hqw : q < w6.heap.size := World.block_lt_of_cell? w6 _ k0
          by_cases hoM : 0 < oM
          · have i2 : oM > 0 := hoM
            go_upto_region 8 with (go_at_call 77; refine (HO2.out _).mono ?_; rintro e w7 ⟨rfl, hb7⟩; have HB7 := hid hb7; clear hb7)
            have HS7 := hid (HS6.out.step HB7.out)
            have j0 := (HB7.out.cell (p := ⟨q, 0, none⟩) hqw).trans k0
            have j1 := (HB7.out.cell (p := ⟨q, 1, none⟩) hqw).trans k1
            have j2 := (HB7.out.cell (p := ⟨q, 2, none⟩) hqw).trans k2
            clear m0 m1 m2 k0 k1 k2
            have k0 := j0
            have k1 := j1
            have k2 := j2
            clear j0 j1 j2 hqw
            have m0 : w7.cell? ⟨s + 1 + 1 + 1, 0, none⟩ = some (.bool false) := by rw [HS7.out.r3.cell]; rfl
            have m1 : w7.cell? ⟨s + 1 + 1 + 1, 1, none⟩ = some (.int .i64 Mi) := by rw [HS7.out.r3.cell]; rfl
            have m2 : w7.cell? ⟨s + 1 + 1 + 1, 2, none⟩ = some (.string Ms) := by rw [HS7.out.r3.cell]; rfl
            have f0 : w7.frozen? ⟨s + 1 + 1 + 1, 0, none⟩ = false := HS7.out.r3.frozen 0
            have f1 : w7.frozen? ⟨s + 1 + 1 + 1, 1, none⟩ = false := HS7.out.r3.frozen 1
            have f2 : w7.frozen? ⟨s + 1 + 1 + 1, 2, none⟩ = false := HS7.out.r3.frozen 2
            go_upto_region 9 with fail
            change Code.wp _ _ _ _ (setc3 w7 (s + 1 + 1 + 1) (pvc (xi, xs')))
            have HS8 := hid (HS7.out.setM (xi, xs'))
            have HKw8 := hid (show (setc3 w7 (s + 1 + 1 + 1) (pvc (xi, xs'))).cell? ⟨q, 0, none⟩ = some (.bool false) ∧ (setc3 w7 (s + 1 + 1 + 1) (pvc (xi, xs'))).cell? ⟨q, 1, none⟩ = some (.int .i64 xi) ∧ (setc3 w7 (s + 1 + 1 + 1) (pvc (xi, xs'))).cell? ⟨q, 2, none⟩ = some (.string xs') from ⟨(cell_set3 _ _ _ _ _ _ _ hq3).trans k0, (cell_set3 _ _ _ _ _ _ _ hq3).trans k1, (cell_set3 _ _ _ _ _ _ _ hq3).trans k2⟩)
            clear m0 m1 m2 f0 f1 f2 k0 k1 k2
            generalize setc3 w7 (s + 1 + 1 + 1) (pvc (xi, xs')) = w8 at *
            obtain ⟨k0, k1, k2⟩ := HKw8.out
            go_wp2_with fail
            go_roundw
            case rel => exact ⟨t + 1, by omega, by go_num, hid (by rw [HM.out, HX.out, if_pos (.inr hom), if_pos (.inr hoM)]; exact HS8.out)⟩
            case measure => simp [intOf]; omega
          · have i2 : ¬ oM > 0 := hoM
            go_upto_region 9 with (go_at_call 77; refine (HO2.out _).mono ?_; rintro e w7 ⟨rfl, hb7⟩; have HB7 := hid hb7; clear hb7)
            have HS7 := hid (HS6.out.step HB7.out)
            have j0 := (HB7.out.cell (p := ⟨q, 0, none⟩) hqw).trans k0
            have j1 := (HB7.out.cell (p := ⟨q, 1, none⟩) hqw).trans k1
            have j2 := (HB7.out.cell (p := ⟨q, 2, none⟩) hqw).trans k2
            clear m0 m1 m2 k0 k1 k2
            have k0 := j0
            have k1 := j1
            have k2 := j2
            clear j0 j1 j2 hqw
            go_wp2_with fail
            go_roundw
            case rel => exact ⟨t + 1, by omega, by go_num, hid (by rw [HM.out, HX.out, if_pos (.inr hom), if_neg (by rintro (h | h) <;> omega)]; exact HS7.out)⟩
            case measure => simp [intOf]; omega
        · go_upto_region 7 with (go_at_call 77; refine (HO1.out _).mono ?_; rintro e w5 ⟨rfl, hb5⟩; have HB5 := hid hb5; clear hb5)
          have HS5 := hid (HS4.out.step HB5.out)
          have j0 := (HB5.out.cell (p := ⟨q, 0, none⟩) hqw).trans k0
          have j1 := (HB5.out.cell (p := ⟨q, 1, none⟩) hqw).trans k1
          have j2 := (HB5.out.cell (p := ⟨q, 2, none⟩) hqw).trans k2
          clear m0 m1 m2 k0 k1 k2
          have k0 := j0
          have k1 := j1
          have k2 := j2
          clear j0 j1 j2 hqw
          have m0 : w5.cell? ⟨s + 1 + 1 + 1, 0, none⟩ = some (.bool false) := by rw [HS5.out.r3.cell]; rfl
          have m1 : w5.cell? ⟨s + 1 + 1 + 1, 1, none⟩ = some (.int .i64 Mi) := by rw [HS5.out.r3.cell]; rfl
          have m2 : w5.cell? ⟨s + 1 + 1 + 1, 2, none⟩ = some (.string Ms) := by rw [HS5.out.r3.cell]; rfl
          have hqw : q < w5.heap.size := World.block_lt_of_cell? w5 _ k0
          by_cases hoM : 0 < oM
          · have i2 : oM > 0 := hoM
            go_upto_region 8 with (go_at_call 77; refine (HO2.out _).mono ?_; rintro e w7 ⟨rfl, hb7⟩; have HB7 := hid hb7; clear hb7)
            have HS7 := hid (HS5.out.step HB7.out)
            have j0 := (HB7.out.cell (p := ⟨q, 0, none⟩) hqw).trans k0
            have j1 := (HB7.out.cell (p := ⟨q, 1, none⟩) hqw).trans k1
            have j2 := (HB7.out.cell (p := ⟨q, 2, none⟩) hqw).trans k2
            clear m0 m1 m2 k0 k1 k2
            have k0 := j0
            have k1 := j1
            have k2 := j2
            clear j0 j1 j2 hqw
            have m0 : w7.cell? ⟨s + 1 + 1 + 1, 0, none⟩ = some (.bool false) := by rw [HS7.out.r3.cell]; rfl
            have m1 : w7.cell? ⟨s + 1 + 1 + 1, 1, none⟩ = some (.int .i64 Mi) := by rw [HS7.out.r3.cell]; rfl
            have m2 : w7.cell? ⟨s + 1 + 1 + 1, 2, none⟩ = some (.string Ms) := by rw [HS7.out.r3.cell]; rfl
            have f0 : w7.frozen? ⟨s + 1 + 1 + 1, 0, none⟩ = false := HS7.out.r3.frozen 0
            have f1 : w7.frozen? ⟨s + 1 + 1 + 1, 1, none⟩ = false := HS7.out.r3.frozen 1
            have f2 : w7.frozen? ⟨s + 1 + 1 + 1, 2, none⟩ = false := HS7.out.r3.frozen 2
            go_upto_region 9 with fail
            change Code.wp _ _ _ _ (setc3 w7 (s + 1 + 1 + 1) (pvc (xi, xs')))
            have HS8 := hid (HS7.out.setM (xi, xs'))
            have HKw8 := hid (show (setc3 w7 (s + 1 + 1 + 1) (pvc (xi, xs'))).cell? ⟨q, 0, none⟩ = some (.bool false) ∧ (setc3 w7 (s + 1 + 1 + 1) (pvc (xi, xs'))).cell? ⟨q, 1, none⟩ = some (.int .i64 xi) ∧ (setc3 w7 (s + 1 + 1 + 1) (pvc (xi, xs'))).cell? ⟨q, 2, none⟩ = some (.string xs') from ⟨(cell_set3 _ _ _ _ _ _ _ hq3).trans k0, (cell_set3 _ _ _ _ _ _ _ hq3).trans k1, (cell_set3 _ _ _ _ _ _ _ hq3).trans k2⟩)
            clear m0 m1 m2 f0 f1 f2 k0 k1 k2
            generalize setc3 w7 (s + 1 + 1 + 1) (pvc (xi, xs')) = w8 at *
            obtain ⟨k0, k1, k2⟩ := HKw8.out
            go_wp2_with fail
            go_roundw
            case rel => exact ⟨t + 1, by omega, by go_num, hid (by rw [HM.out, HX.out, if_neg (by rintro (h | h) <;> omega), if_pos (.inr hoM)]; exact HS8.out)⟩
            case measure => simp [intOf]; omega
          · have i2 : ¬ oM > 0 := hoM
            go_upto_region 9 with (go_at_call 77; refine (HO2.out _).mono ?_; rintro e w7 ⟨rfl, hb7⟩; have HB7 := hid hb7; clear hb7)
            have HS7 := hid (HS5.out.step HB7.out)
            have j0 := (HB7.out.cell (p := ⟨q, 0, none⟩) hqw).trans k0
            have j1 := (HB7.out.cell (p := ⟨q, 1, none⟩) hqw).trans k1
            have j2 := (HB7.out.cell (p := ⟨q, 2, none⟩) hqw).trans k2
            clear m0 m1 m2 k0 k1 k2
            have k0 := j0
            have k1 := j1
            have k2 := j2
            clear j0 j1 j2 hqw
            go_wp2_with fail
            go_roundw
            case rel => exact ⟨t + 1, by omega, by go_num, hid (by rw [HM.out, HX.out, if_neg (by rintro (h | h) <;> omega), if_neg (by rintro (h | h) <;> omega)]; exact HS7.out)⟩
            case measure => simp [intOf]; omega
    · obtain rfl : t = vs.length := by omega
      rw [List.take_length, HM9.out.1, HM9.out.2] at HS
      obtain ⟨mi, ms⟩ := m9
      obtain ⟨Mi, Ms⟩ := M9
      have m0 : wr.cell? ⟨s + 1 + 1, 0, none⟩ = some (.bool false) := by rw [HS.out.r2.cell]; rfl
      have m1 : wr.cell? ⟨s + 1 + 1, 1, none⟩ = some (.int .i64 mi) := by rw [HS.out.r2.cell]; rfl
      have m2 : wr.cell? ⟨s + 1 + 1, 2, none⟩ = some (.string ms) := by rw [HS.out.r2.cell]; rfl
      have M0 : wr.cell? ⟨s + 1 + 1 + 1, 0, none⟩ = some (.bool false) := by rw [HS.out.r3.cell]; rfl
      have M1 : wr.cell? ⟨s + 1 + 1 + 1, 1, none⟩ = some (.int .i64 Mi) := by rw [HS.out.r3.cell]; rfl
      have M2 : wr.cell? ⟨s + 1 + 1 + 1, 2, none⟩ = some (.string Ms) := by rw [HS.out.r3.cell]; rfl
      have f0 := HS.out.r0.frozen 0
      have f1 := HS.out.r0.frozen 1
      have f2 := HS.out.r0.frozen 2
      have g0 := HS.out.r1.frozen 0
      have g1 := HS.out.r1.frozen 1
      have g2 := HS.out.r1.frozen 2
      have z0 : wr.cell? ⟨s, 0, none⟩ = some (.bool false) := by rw [HS.out.r0.cell]; rfl
      have z1 : wr.cell? ⟨s, 1, none⟩ = some (.int .i64 0) := by rw [HS.out.r0.cell]; rfl
      have z2 : wr.cell? ⟨s, 2, none⟩ = some (.string ByteArray.empty) := by rw [HS.out.r0.cell]; rfl
      have y0 : wr.cell? ⟨s + 1, 0, none⟩ = some (.bool false) := by rw [HS.out.r1.cell]; rfl
      have y1 : wr.cell? ⟨s + 1, 1, none⟩ = some (.int .i64 0) := by rw [HS.out.r1.cell]; rfl
      have y2 : wr.cell? ⟨s + 1, 2, none⟩ = some (.string ByteArray.empty) := by rw [HS.out.r1.cell]; rfl
      go_upto_region 10 with fail
      go_region
      go_wp2_with fail
      change bodyPost _ _ _ _ _ (setc3 (setc3 wr s (pvc (mi, ms))) (s + 1) (pvc (Mi, Ms))).drew
      have R0 : Row (setc3 (setc3 wr s (pvc (mi, ms))) (s + 1) (pvc (Mi, Ms))) s 38 (pvc (mi, ms)) := setc3_other (row_setc3 HS.out.r0 _ _ _) _ (by omega)
      have R1 : Row (setc3 (setc3 wr s (pvc (mi, ms))) (s + 1) (pvc (Mi, Ms))) (s + 1) 38 (pvc (Mi, Ms)) := row_setc3 (setc3_other HS.out.r1 _ (by omega)) _ _ _
      have HBF : Below s w (setc3 (setc3 wr s (pvc (mi, ms))) (s + 1) (pvc (Mi, Ms))) := below_setc3 (below_setc3 HS.out.bl _ (Nat.le_refl _) _) _ (by omega) _
      clear m0 m1 m2 M0 M1 M2 f0 f1 f2 g0 g1 g2 z0 z1 z2 y0 y1 y2
      generalize setc3 (setc3 wr s (pvc (mi, ms))) (s + 1) (pvc (Mi, Ms)) = w9 at *
      have q0 : w9.cell? ⟨s, 0, none⟩ = some (.bool false) := by rw [R0.cell]; rfl
      have q1 : w9.cell? ⟨s, 1, none⟩ = some (.int .i64 mi) := by rw [R0.cell]; rfl
      have q2 : w9.cell? ⟨s, 2, none⟩ = some (.string ms) := by rw [R0.cell]; rfl
      have p0 : w9.cell? ⟨s + 1, 0, none⟩ = some (.bool false) := by rw [R1.cell]; rfl
      have p1 : w9.cell? ⟨s + 1, 1, none⟩ = some (.int .i64 Mi) := by rw [R1.cell]; rfl
      have p2 : w9.cell? ⟨s + 1, 2, none⟩ = some (.string Ms) := by rw [R1.cell]; rfl
      refine bodyPost_ret (v := .tuple #[pva (mi, ms), pva (Mi, Ms)]) ?_ rfl ⟨rfl, ?_⟩
      · simp [results, Tryz.results65, go_sem, q0, q1, q2, p0, p1, p2]
        exact ⟨rfl, rfl⟩
      · have hse := HSE.out
        subst hse
        exact bdrew HBF 1
end Go.Proofs.YtdlkdiaobbakiaaGreatDoor

/- The plain answer: the place of a value, the different values. -/
set_option linter.unusedVariables false
set_option linter.unusedSimpArgs false
set_option linter.unnecessarySimpa false
set_option maxRecDepth 100000
namespace Go.Proofs.YtdlkdiaobbakiaaGreatDoor
open Go.RowKit

def placeP (vs : List PV) (v : PV) : Nat := vs.findIdx fun x => eqP x v
theorem placeP_found (vs : List PV) (v : PV) (t : Nat) (h : t < vs.length) (h1 : ∀ u, u < t → eqP (vs.getD u dfP) v = false) (h2 : eqP (vs.getD t dfP) v = true) : placeP vs v = t := by
  unfold placeP
  refine (List.findIdx_eq h).2 ⟨?_, fun u hu => ?_⟩
  · simpa [List.getD, List.getElem?_eq_getElem h] using h2
  · have := h1 u hu
    simpa [List.getD, List.getElem?_eq_getElem (Nat.lt_trans hu h)] using this
theorem placeP_none (vs : List PV) (v : PV) (h1 : ∀ u, u < vs.length → eqP (vs.getD u dfP) v = false) : placeP vs v = vs.length := by
  unfold placeP
  refine List.findIdx_eq_length.2 fun x hx => ?_
  obtain ⟨i, hi, rfl⟩ := List.getElem_of_mem hx
  have := h1 i hi
  simpa [List.getD, List.getElem?_eq_getElem hi] using this
set_option maxHeartbeats 8000000 in
theorem placeIn_any (u : Value) (vs : List PV) (v : PV) (w : World) (hu : Rd w u vs.length 3 (cellsP vs)) (hl : vs.length ≤ 1048576) :
    Calls Tryz.prog 60 #[u, pva v] w fun e w' => e = .returned (.int .i64 (placeP vs v : Nat)) ∧ Below w.heap.size w w' := by
  have HU := hid hu
  obtain ⟨A1, c1, rfl, _, _, _⟩ := hu.form
  obtain ⟨vi, vst⟩ := v
  obtain ⟨R, hR⟩ : ∃ R, placeP vs (vi, vst) = R := ⟨_, rfl⟩
  have HRR := hid hR
  rw [hR]
  clear hu hR
  have HBX := hid ((brefl w).alloc (Nat.le_refl _) (.cells #[.bool false, .int .i64 vi, .string vst] 38))
  have HRX : Hid (Row (w.alloc (.cells #[.bool false, .int .i64 vi, .string vst] 38)) w.heap.size 38 [.bool false, .int .i64 vi, .string vst]) := hid (by unfold Row; rw [heap_alloc_new])
  unfold pva
  go_enter Tryz.func60, Tryz.ntmps60
  go_wp2_with fail
  have HU1 := hid (HU.out.mono HBX.out)
  generalize w.alloc (.cells #[.bool false, .int .i64 vi, .string vst] 38) = w1 at *
  have HX1 := hid (show w.heap.size < w1.heap.size from by
    have k0 : w1.cell? ⟨w.heap.size, 0, none⟩ = some (.bool false) := by rw [HRX.out.cell]; rfl
    exact World.block_lt_of_cell? w1 _ k0)
  clear HU
  obtain ⟨s, hs⟩ : ∃ s, w.heap.size = s := ⟨_, rfl⟩
  have HSS := hid hs
  rw [hs] at HBX HRX HX1
  simp only [hs]
  clear hs
  go_loopw [9] (fun i wr => ∃ t : Nat, t ≤ vs.length ∧ i = .int .i64 t ∧ Hid (∀ u, u < t → eqP (vs.getD u dfP) (vi, vst) = false) ∧ Hid (Below w1.heap.size w1 wr)) (fun i _ => vs.length - (intOf i).toNat)
  case atStart => exact ⟨0, by omega, rfl, hid (fun u h => absurd h (by omega)), hid (brefl w1)⟩
  case round =>
    obtain ⟨t, ht, rfl, HNO, HB⟩ := hrel
    by_cases hlt : t < vs.length
    · obtain ⟨b, o, rfl, hcells⟩ := (HU1.out.mono HB.out).atP (by omega)
      obtain ⟨l0, l1, l2⟩ := hcells t hlt
      have HO := hid (fun (w2 : World) => order_any (vs.getD t dfP) (vi, vst) w2)
      have HEQ : Hid (eqP (vs.getD t dfP) (vi, vst) = decide (ordP (vs.getD t dfP) (vi, vst) = 0)) := hid rfl
      have HPF := hid (fun h2 => placeP_found vs (vi, vst) t hlt HNO.out h2)
      have HNX := hid (fun (h2 : eqP (vs.getD t dfP) (vi, vst) = false) => (fun u (hu : u < t + 1) => by
        by_cases h : u = t
        · subst h; exact h2
        · exact HNO.out u (by omega) : ∀ u, u < t + 1 → eqP (vs.getD u dfP) (vi, vst) = false))
      clear hcells
      generalize vs.getD t dfP = X at *
      obtain ⟨xi, xs'⟩ := X
      simp only at l1 l2 HO HEQ HPF HNX
      generalize eqP (xi, xs') (vi, vst) = eq at *
      generalize ordP (xi, xs') (vi, vst) = od at *
      have HBA := hid ((brefl wr).alloc (Nat.le_refl _) (.cells #[.bool false, .int .i64 xi, .string xs'] 38))
      have HRW : Hid (Row (wr.alloc (.cells #[.bool false, .int .i64 xi, .string xs'] 38)) wr.heap.size 38 [.bool false, .int .i64 xi, .string xs']) := hid (by unfold Row; rw [heap_alloc_new])
      have HB4 := hid (HB.out.trans (HBA.out.mono HB.out.size))
      go_upto_region 4 with fail
      generalize wr.alloc (.cells #[.bool false, .int .i64 xi, .string xs'] 38) = w4 at *
      have HR4 := hid (HRX.out.mono HB4.out)
      generalize wr.heap.size = q at *
      clear l0 l1 l2 HRX
      have k0 : w4.cell? ⟨q, 0, none⟩ = some (.bool false) := by rw [HRW.out.cell]; rfl
      have k1 : w4.cell? ⟨q, 1, none⟩ = some (.int .i64 xi) := by rw [HRW.out.cell]; rfl
      have k2 : w4.cell? ⟨q, 2, none⟩ = some (.string xs') := by rw [HRW.out.cell]; rfl
      have m0 : w4.cell? ⟨s, 0, none⟩ = some (.bool false) := by rw [HR4.out.cell]; rfl
      have m1 : w4.cell? ⟨s, 1, none⟩ = some (.int .i64 vi) := by rw [HR4.out.cell]; rfl
      have m2 : w4.cell? ⟨s, 2, none⟩ = some (.string vst) := by rw [HR4.out.cell]; rfl
      by_cases hod : od = 0
      · have ho2 : (od == 0) = true := by simp [hod]
        have HFIN := hid (HPF.out (by rw [HEQ.out]; simp [hod]))
        go_wp2_with (go_at_call 77; refine (HO.out _).mono ?_; rintro e w3 ⟨rfl, hb3⟩; have HB3 := hid hb3; clear hb3 k0 k1 k2 m0 m1 m2)
        go_ret
        refine ⟨by rw [← HRR.out, HFIN.out]; try rfl, ?_⟩
        have hss := HSS.out
        subst hss
        exact HBX.out.trans ((HB4.out.trans (HB3.out.mono HB4.out.size)).mono HBX.out.size)
      · have ho2 : (od == 0) = false := by simp [hod]
        have HN2 := hid (HNX.out (by rw [HEQ.out]; simp [hod]))
        go_wp2_with (go_at_call 77; refine (HO.out _).mono ?_; rintro e w3 ⟨rfl, hb3⟩; have HB3 := hid hb3; clear hb3 k0 k1 k2 m0 m1 m2)
        go_roundw
        case rel => exact ⟨t + 1, by omega, by go_num, HN2, hid (HB4.out.trans (HB3.out.mono HB4.out.size))⟩
        case measure => simp [intOf]; omega
    · obtain rfl : t = vs.length := by omega
      have HFIN := hid (placeP_none vs (vi, vst) HNO.out)
      go_wp2_with fail
      go_ret
      refine ⟨by rw [← HRR.out, HFIN.out]; try rfl, ?_⟩
      have hss := HSS.out
      subst hss
      exact HBX.out.trans (HB.out.mono HBX.out.size)
end Go.Proofs.YtdlkdiaobbakiaaGreatDoor
