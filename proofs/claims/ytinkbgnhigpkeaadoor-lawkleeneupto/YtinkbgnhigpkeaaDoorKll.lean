/- The law's own parts about pairs: laid, cut, held against each other. -/
import Derived.Test.YtinkbgnhigpkeaaDoorKlr2
import Derived.Test.YtinkbgnhigpkeaaDoorBoth
import Derived.Test.YtinkbgnhigpkeaaDoorOwnw
set_option linter.unusedVariables false
set_option linter.unusedSimpArgs false
set_option linter.unnecessarySimpa false
set_option maxRecDepth 20000
namespace Go.Proofs.YtinkbgnhigpkeaaDoor
open Go.RowKit

set_option maxHeartbeats 2000000 in
theorem cutPair_any (g o n c lp lq cp cq : Nat) (P Q : Option Addr) (w : World) (h1 : lp + lq ≤ n) (h2 : n ≤ c) (h3 : c ≤ maxLen) :
    Calls Tryd.prog 6 #[.slice (some ⟨g, o, none⟩) n c, .agg #[.slice P lp cp, .slice Q lq cq]] w fun e w' => e = .returned (.agg #[.slice (some ⟨g, o, none⟩) lp c, .slice (if c = lp then some ⟨g, o, none⟩ else some ⟨g, o + lp, none⟩) lq (c - lp)]) ∧ Below w.heap.size w w' := by
  unfold maxLen at h3
  obtain ⟨P2, hP2⟩ : ∃ P2, (if c = lp then (some ⟨g, o, none⟩ : Option Addr) else some ⟨g, o + lp, none⟩) = P2 := ⟨_, rfl⟩
  rw [hP2]
  have HP2 := hid hP2
  clear hP2
  go_enter Tryd.func6, Tryd.ntmps6
  go_upto_region 1 with fail
  obtain ⟨ra, rz, hbw⟩ := rows2d (u := w) (X := #[.slice P lp cp, .slice Q lq cq]) (Y := #[.slice none 0 0, .slice none 0 0]) (eX := 24) (eY := 24)
  have HRA := hid ra; have HRZ := hid rz; have HBW := hid hbw
  clear ra rz hbw
  generalize (w.alloc (.cells #[.slice P lp cp, .slice Q lq cq] 24)).alloc (.cells #[.slice none 0 0, .slice none 0 0] 24) = w0 at *
  obtain ⟨a0, a1⟩ := cell2 HRA.out
  obtain ⟨z0, z1⟩ := cell2 HRZ.out
  have f0 := HRZ.out.frozen 0
  have f1 := HRZ.out.frozen 1
  have i1 : (lp : Int) ≤ (c : Int) := by omega
  have i2 : (lp : Int) + (lq : Int) ≤ (c : Int) := by omega
  have i3 : (lp : Int) ≤ (lp : Int) + (lq : Int) := by omega
  go_wp2_with fail
  go_region
  rw [HP2.out]
  have hz := (HRZ.out.set 0 (.slice (some ⟨g, o, none⟩) lp c)).set 1 (.slice P2 lq (c - lp))
  obtain ⟨y0, y1⟩ := cell2 hz
  go_wp2_with fail
  refine bodyPost_ret (v := .agg #[.slice (some ⟨g, o, none⟩) lp c, .slice P2 lq (c - lp)]) ?_ rfl ⟨rfl, bdrew (below_set (below_set HBW.out _ _ _ (by omega)) _ _ _ (by omega)) 1⟩
  simp [results, Tryd.results6, go_sem, *]
set_option maxHeartbeats 2000000 in
theorem samePair_any (xv yv : Value) (pT pU : Value) (qT qU : Value) (T U : List Nat) (w : World) (hx : xv = .agg #[pT, pU]) (hy : yv = .agg #[qT, qU]) (h1 : Rd w pT T.length 1 (u64s T)) (h2 : Rd w pU U.length 1 (u64s U)) (h3 : Rd w qT T.length 1 (u64s T)) (h4 : Rd w qU U.length 1 (u64s U))
    (l1 : T.length ≤ maxLen) (l2 : U.length ≤ maxLen) :
    Calls Tryd.prog 9 #[xv, yv] w fun e w' => e = .returned (.bool true) ∧ Below w.heap.size w w' := by
  subst hx hy
  have HS1 := hid (fun (w2 : World) (hb : Below w.heap.size w w2) => sameWords_same pT qT T w2 (h1.mono hb) (h3.mono hb) l1)
  have HS2 := hid (fun (w2 : World) (hb : Below w.heap.size w w2) => sameWords_same pU qU U w2 (h2.mono hb) (h4.mono hb) l2)
  obtain ⟨A1, c1, rfl, _, _, _⟩ := h1.form
  obtain ⟨A2, c2, rfl, _, _, _⟩ := h2.form
  obtain ⟨A3, c3, rfl, _, _, _⟩ := h3.form
  obtain ⟨A4, c4, rfl, _, _, _⟩ := h4.form
  clear h1 h2 h3 h4
  go_enter Tryd.func9, Tryd.ntmps9
  go_upto_region 1 with fail
  obtain ⟨ra, rz, hbw⟩ := rows2d (u := w) (X := #[.slice A1 T.length c1, .slice A2 U.length c2]) (Y := #[.slice A3 T.length c3, .slice A4 U.length c4]) (eX := 24) (eY := 24)
  have HRA := hid ra; have HRB := hid rz; have HBW := hid hbw
  clear ra rz hbw
  generalize (w.alloc (.cells #[.slice A1 T.length c1, .slice A2 U.length c2] 24)).alloc (.cells #[.slice A3 T.length c3, .slice A4 U.length c4] 24) = w0 at *
  obtain ⟨a0, a1⟩ := cell2 HRA.out
  obtain ⟨b0, b1⟩ := cell2 HRB.out
  have nd : ∀ k, (∀ (b : Nat) (e : TypeId) (cs : List Value), Row w0 b e cs → Row (w0.drewN k) b e cs) := fun k b e cs h => h
  go_wp2_with (first
    | (go_at_call_of 11 (Value.slice A1 T.length c1); refine (HS1.out _ HBW.out).mono ?_; rintro e w1 ⟨rfl, k1, rfl⟩; have HRA1 := hid (nd k1 _ _ _ HRA.out); have HRB1 := hid (nd k1 _ _ _ HRB.out); obtain ⟨p0, p1⟩ := cell2 HRA1.out; obtain ⟨q0, q1⟩ := cell2 HRB1.out)
    | (go_at_call 11; refine (HS2.out _ (bdrew HBW.out k1)).mono ?_; rintro e w1 ⟨rfl, k2, rfl⟩))
  go_ret
  exact ⟨rfl, bdrew HBW.out (k1 + k2)⟩
set_option maxHeartbeats 4000000 in
theorem layPairs_any (av au bv bu : Value) (aT aU bT bU L : List Nat) (r : Int) (w : World) (h1 : Rd w av aT.length 1 (u64s aT)) (h2 : Rd w au aU.length 1 (u64s aU)) (h3 : Rd w bv bT.length 1 (u64s bT)) (h4 : Rd w bu bU.length 1 (u64s bU))
    (l1 : aT.length ≤ 1048576) (l2 : aU.length ≤ 1048576) (l3 : bT.length ≤ 1048576) (l4 : bU.length ≤ 1048576) (hL : aT ++ aU ++ bT ++ bU = L) :
    Calls Tryd.prog 5 #[.agg #[av, au], .agg #[bv, bu], .int .i64 r] w fun e w' => ∃ g, e = .returned (.slice (some ⟨g, 0, none⟩) (L.length + clipN r) (L.length + clipN r)) ∧ w.heap.size ≤ g ∧
      Row w' g 55 (u64s (L ++ tailW (clipN r))) ∧ Below w.heap.size w w' := by
  have H1 := hid h1; have H2 := hid h2; have H3 := hid h3; have H4 := hid h4
  have HCP := hid (fun (w2 : World) (hb : Below w.heap.size w w2) => copyWords_any av aT w2 (h1.mono hb) l1)
  have HLW := hid (fun (v : Value) (w2 : World) (hr : Rd w2 v L.length 1 (u64s L)) => layWords_any v L r w2 hr (by rw [← hL]; simp only [List.length_append]; omega))
  have HL := hid hL
  clear hL
  obtain ⟨A1, c1, rfl, _, _, _⟩ := h1.form
  obtain ⟨A2, c2, rfl, _, _, _⟩ := h2.form
  obtain ⟨A3, c3, rfl, _, _, _⟩ := h3.form
  obtain ⟨A4, c4, rfl, _, _, _⟩ := h4.form
  clear h1 h2 h3 h4
  go_enter Tryd.func5, Tryd.ntmps5
  go_upto_region 1 with fail
  obtain ⟨ra, rz, hbw⟩ := rows2d (u := w) (X := #[.slice A1 aT.length c1, .slice A2 aU.length c2]) (Y := #[.slice A3 bT.length c3, .slice A4 bU.length c4]) (eX := 24) (eY := 24)
  have HRA := hid ra; have HRB := hid rz; have HBW := hid hbw
  clear ra rz hbw
  have hga : w.heap.size + 1 < ((w.alloc (.cells #[.slice A1 aT.length c1, .slice A2 aU.length c2] 24)).alloc (.cells #[.slice A3 bT.length c3, .slice A4 bU.length c4] 24)).heap.size := HRB.out.lt
  generalize (w.alloc (.cells #[.slice A1 aT.length c1, .slice A2 aU.length c2] 24)).alloc (.cells #[.slice A3 bT.length c3, .slice A4 bU.length c4] 24) = w0 at *
  obtain ⟨a0, a1⟩ := cell2 HRA.out
  have hsz0 : w.heap.size ≤ w0.heap.size := by omega
  go_upto_region 2 with (go_at_call 12; refine (HCP.out _ HBW.out).mono ?_; rintro e w1 ⟨r1, rfl, ho1, hb1⟩; have HO1 := hid ho1; have HB1 := hid hb1; clear ho1 hb1)
  have hsz1 := HB1.out.size
  have HRA1 := hid (HRA.out.mono HB1.out)
  have HRB1 := hid (HRB.out.mono HB1.out)
  have HBW1 := hid (Below.then' HBW.out HB1.out hsz0)
  obtain ⟨p0, p1⟩ := cell2 HRA1.out
  obtain ⟨q0, q1⟩ := cell2 HRB1.out
  clear a0 a1 HRA HRB HBW
  go_upto_region 3 with (at_builtin; refine wpList_appendN rfl (.tmp 11) (.tmp 13) rfl 55 (.int .u64 0) 8 Tryd.underlying22 Tryd.info45 rfl rfl rfl HO1.out hsz1 (H2.out.mono HBW1.out) (oneCell_u64s aU) (by unfold maxLen; omega) (by omega) ?_; intro v2 w2 ho2 hb2; have HO2 := hid ho2; have HB2 := hid hb2; clear ho2 hb2)
  rw [← u64s_append] at HO2
  have HRB2 := hid ((HRB1.out.below HB2.out (by omega)))
  have HBW2 := hid (HBW1.out.trans (HB2.out.mono (by omega)))
  have hsz2 := HB2.out.size
  obtain ⟨s0, s1⟩ := cell2 HRB2.out
  clear p0 p1 q0 q1 HRA1 HRB1
  have hll2 : aT.length + aU.length ≤ 2097152 := by omega
  go_upto_region 4 with (at_builtin; refine wpList_appendN rfl (.tmp 15) (.tmp 17) rfl 55 (.int .u64 0) 8 Tryd.underlying22 Tryd.info45 rfl rfl rfl HO2.out (Nat.le_trans hsz1 hsz2) (H3.out.mono HBW2.out) (oneCell_u64s bT) (by unfold maxLen; omega) (by omega) ?_; intro v3 w3 ho3 hb3; have HO3 := hid ho3; have HB3 := hid hb3; clear ho3 hb3)
  rw [← u64s_append] at HO3
  have HRB3 := hid ((HRB2.out.below HB3.out (by omega)))
  have HBW3 := hid (HBW2.out.trans (HB3.out.mono (by omega)))
  have hsz3 := HB3.out.size
  obtain ⟨t0, t1⟩ := cell2 HRB3.out
  clear s0 s1 HRB2
  go_upto_region 5 with (at_builtin; refine wpList_appendN rfl (.tmp 19) (.tmp 21) rfl 55 (.int .u64 0) 8 Tryd.underlying22 Tryd.info45 rfl rfl rfl HO3.out (Nat.le_trans (Nat.le_trans hsz1 hsz2) hsz3) (H4.out.mono HBW3.out) (oneCell_u64s bU) (by unfold maxLen; omega) (by omega) ?_; intro v4 w4 ho4 hb4; have HO4 := hid ho4; have HB4 := hid hb4; clear ho4 hb4)
  rw [← u64s_append] at HO4
  have HBW4 := hid (HBW3.out.trans (HB4.out.mono (by omega)))
  have hsz4 := HB4.out.size
  rw [HL.out] at HO4
  have HRD4 : Hid (Rd w4 v4 L.length 1 (u64s L)) := hid (by
    have := owns_rd HO4.out
    rw [show aT.length + aU.length + bT.length + bU.length = L.length by rw [← HL.out]; simp only [List.length_append]] at this
    exact this)
  have HLW4 := hid (HLW.out v4 w4 HRD4.out)
  go_wp2_with (go_at_call 13; refine HLW4.out.mono ?_; rintro e w5 ⟨rfl, hr5, hb5, hz5⟩)
  go_ret
  exact ⟨w4.heap.size, rfl, by omega, hr5, Below.then' HBW4.out hb5 HBW4.out.size⟩
end Go.Proofs.YtinkbgnhigpkeaaDoor
