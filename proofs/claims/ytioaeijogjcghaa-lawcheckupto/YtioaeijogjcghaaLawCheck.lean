/- LawCheck's walk. -/
import Derived.Test.YtioaeijogjcghaaLno5
set_option linter.unusedVariables false
set_option linter.unusedSimpArgs false
set_option linter.unnecessarySimpa false
set_option maxRecDepth 20000
namespace Go.Proofs.Ytioaeijogjcghaa
open Go.RowKit

theorem LaidQ.mono {B : Nat} {w w' : World} {v : Value} {L : List Nd} {cs : List Int} {gs : List Ag} {m g gc g2 g3 : Nat} (h : LaidQ B w v L cs gs m g gc g2 g3) (hb : Below w.heap.size w w') : LaidQ B w' v L cs gs m g gc g2 g3 :=
  ⟨h.val, h.low, h.nodes.mono hb, h.cells.mono hb, h.cols.mono hb, h.aggs.mono hb⟩
theorem tailN_len (n m : Nat) : (tailN n m).length = m := by simp [tailN]
theorem row_i64 {w : World} {g n cap : Nat} {xs ys : List Int} (h : Row w g 3 (i64s (xs ++ ys))) (hn : xs.length = n) (hc : n ≤ cap) (hm : cap ≤ maxLen) : Rd w (.slice (some ⟨g, 0, none⟩) n cap) n 1 (i64s xs) := by
  subst hn
  have := h.rd 0 xs.length cap (by simp [i64s]) hc hm
  rw [List.drop_zero, i64s_append, ← i64s_length xs, List.take_left] at this
  rwa [i64s_length] at this
theorem row_ags {w : World} {g n cap : Nat} {xs ys : List Ag} (h : Row w g 48 (ags (xs ++ ys))) (hn : xs.length = n) (hc : n ≤ cap) (hm : cap ≤ maxLen) : Rd w (.slice (some ⟨g, 0, none⟩) n cap) n 2 (ags xs) := by
  subst hn
  refine ⟨ags_length xs, .inr ⟨g, 0, cap, rfl, hc, hm, ?_⟩⟩
  have hs := h.seg 0 (xs.length * 2)
  rw [List.drop_zero, ags_append, ← ags_length xs, List.take_left] at hs
  exact hs
/-- of a query that was laid: what it was laid of -/
theorem LaidQ.cut {B : Nat} {w : World} {v : Value} {L : List Nd} {cs : List Int} {gs : List Ag} {m g gc g2 g3 : Nat} (h : LaidQ B w v L cs gs m g gc g2 g3) (h1 : L.length + m ≤ maxLen) (h0 : argsN L L.length + m ≤ maxLen) (h2 : cs.length + m ≤ maxLen) (h3 : gs.length + m ≤ maxLen) :
    NsIn w (.slice (some ⟨g, 0, none⟩) L.length (L.length + m)) L ∧ Rd w (.slice (some ⟨g2, 0, none⟩) cs.length (cs.length + m)) cs.length 1 (i64s cs) ∧ Rd w (.slice (some ⟨g3, 0, none⟩) gs.length (gs.length + m)) gs.length 2 (ags gs) := by
  have hl : (L ++ tailN L.length m).length = L.length + m := by rw [List.length_append, tailN_len]
  refine ⟨?_, row_i64 h.cols rfl (by omega) h2, row_ags h.aggs rfl (by omega) h3⟩
  have hn := h.nodes
  have hc := h.cells
  rw [← hl] at hn hc
  have := laid_ns hn hc (by rw [hl]; exact argsN_hi L m m (Nat.le_refl _)) h0 (L.length + m) L.length (by omega) (by omega) h1
  rwa [List.take_left] at this
/-- the whole of it -/
theorem LaidQ.whole {B : Nat} {w : World} {v : Value} {L : List Nd} {cs : List Int} {gs : List Ag} {m g gc g2 g3 : Nat} (h : LaidQ B w v L cs gs m g gc g2 g3) (h1 : L.length + m ≤ maxLen) (h0 : argsN L L.length + m ≤ maxLen) (h2 : cs.length + m ≤ maxLen) (h3 : gs.length + m ≤ maxLen) :
    NsIn w (.slice (some ⟨g, 0, none⟩) (L.length + m) (L.length + m)) (L ++ tailN L.length m) ∧ Rd w (.slice (some ⟨g2, 0, none⟩) (cs.length + m) (cs.length + m)) (cs ++ tailI m).length 1 (i64s (cs ++ tailI m)) ∧ Rd w (.slice (some ⟨g3, 0, none⟩) (gs.length + m) (gs.length + m)) (gs ++ tailG gs.length m).length 2 (ags (gs ++ tailG gs.length m)) := by
  have hl : (L ++ tailN L.length m).length = L.length + m := by rw [List.length_append, tailN_len]
  have hl2 : (cs ++ tailI m).length = cs.length + m := by rw [List.length_append, tailI_length]
  have hl3 : (gs ++ tailG gs.length m).length = gs.length + m := by rw [List.length_append, tailG_len]
  refine ⟨?_, ?_, ?_⟩
  · have hn := h.nodes
    have hc := h.cells
    rw [← hl] at hn hc
    have := laid_ns hn hc (by rw [hl]; exact argsN_hi L m m (Nat.le_refl _)) h0 (L.length + m) (L.length + m) (by omega) (by omega) h1
    rwa [← hl, List.take_length, hl] at this
  · rw [hl2]; exact row_i64 (ys := []) (by rw [List.append_nil]; exact h.cols) hl2 (Nat.le_refl _) h2
  · rw [hl3]; exact row_ags (ys := []) (by rw [List.append_nil]; exact h.aggs) hl3 (Nat.le_refl _) h3
set_option maxRecDepth 100000 in
set_option maxHeartbeats 8000000 in
theorem lawCheck_walk (v0 wv cv av : Value) (ks : List Int) (L : List Nd) (cs : List Int) (gs : List Ag) (r : Int) (w : World) (hk : Rd w v0 ks.length 1 (i64s ks)) (hx : NsIn w wv L) (hc : Rd w cv cs.length 1 (i64s cs)) (ha : Rd w av gs.length 2 (ags gs))
    (hkl : ks.length ≤ 1048576) (hq : L.length ≤ 1048576) (hl : argsN L L.length ≤ 1048576) (hcl : cs.length ≤ 1048576) (hgl : gs.length ≤ 1048576) :
    Calls Try.prog 3 #[v0, .agg #[wv, cv, av], .int .i64 r] w fun e w' => e = .returned (.bool true) ∧ Below w.heap.size w w' := by
  have hmc := clipN_le r
  obtain ⟨m, hmr⟩ : ∃ m, clipN r = m := ⟨_, rfl⟩
  have HLI := hid (fun (w2 : World) (hb : Below w.heap.size w w2) => by
    have := layInts_any v0 ks r w2 (hk.mono hb) (by omega)
    rw [hmr] at this; exact this)
  have HLQ := hid (fun (w2 : World) (hb : Below w.heap.size w w2) => by
    have := layQuery_any wv cv av L cs gs r w2 (hx.mono hb) (hc.mono hb) (ha.mono hb) hq hl hcl hgl
    rw [hmr] at this; exact this)
  rw [hmr] at hmc
  have HRC := hid (fun (w2 : World) (hb : Below w.heap.size w w2) => by
    have := refCheck_any v0 wv cv av ks L cs gs w2 (hk.mono hb) (hx.mono hb) (hc.mono hb) (ha.mono hb) hl
    rw [← due_chk] at this; exact this)
  have HCK := hid (fun (v0 wv cv av : Value) (w2 : World) (h0 : Rd w2 v0 ks.length 1 (i64s ks)) (h1 : NsIn w2 wv L) (h2 : Rd w2 cv cs.length 1 (i64s cs)) (h3 : Rd w2 av gs.length 2 (ags gs)) => Check_any v0 wv cv av ks L cs gs w2 h0 h1 h2 h3 hl)
  have B1 : Hid (L.length + m ≤ maxLen ∧ argsN L L.length + m ≤ maxLen ∧ cs.length + m ≤ maxLen ∧ gs.length + m ≤ maxLen ∧ ks.length + m ≤ maxLen) := hid (by unfold maxLen; omega)
  obtain ⟨A1, c1, rfl⟩ := hx.form
  obtain ⟨A2, c2, rfl, _, _, _⟩ := hc.form
  obtain ⟨A3, c3, rfl, _, _, _⟩ := ha.form
  obtain ⟨A0, c0, rfl, _, _, _⟩ := hk.form
  clear hk hx hc ha hl hmr
  generalize chkN ks L cs gs = N at *
  go_enter Try.func3, Try.ntmps3
  go_upto_region 1 with fail
  obtain ⟨ro, hbo⟩ := fresh (w := w) (C := #[.slice A1 L.length c1, .slice A2 cs.length c2, .slice A3 gs.length c3]) (e := 26)
  have HRO := hid ro; have HBO := hid hbo
  have hgw := HRO.out.lt
  clear ro hbo
  generalize w.alloc (.cells #[.slice A1 L.length c1, .slice A2 cs.length c2, .slice A3 gs.length c3] 26) = w0 at *
  go_upto_region 2 with (go_at_call 5; refine (HLI.out _ HBO.out).mono ?_; rintro e w1 ⟨rfl, hr1, hb1, _⟩; have HRK1 := hid hr1; have HB1 := hid hb1; clear hr1 hb1)
  have HRO1 := hid (HRO.out.mono HB1.out)
  have HBW1 := hid (Below.then' HBO.out HB1.out HBO.out.size)
  have hgk : w0.heap.size < w1.heap.size := HRK1.out.lt
  clear HRO HBO HB1
  generalize w0.heap.size = gk at *
  obtain ⟨a0, a1, a2⟩ := cell3 HRO1.out
  go_upto_region 3 with (go_at_call 6; refine (HLQ.out _ HBW1.out).mono ?_; rintro e w2 ⟨v, g, gc, g2, g3, rfl, hlq, hb2⟩; have HLQ2 := hid hlq; have HB2 := hid hb2; obtain rfl := hlq.val; clear hlq hb2)
  obtain ⟨hbn, hrn⟩ : Below w2.heap.size w2 (w2.alloc (.cells #[.slice (some ⟨g, 0, none⟩) (L.length + m) (L.length + m), .slice (some ⟨g2, 0, none⟩) (cs.length + m) (cs.length + m), .slice (some ⟨g3, 0, none⟩) (gs.length + m) (gs.length + m)] 26)) ∧ Row (w2.alloc (.cells #[.slice (some ⟨g, 0, none⟩) (L.length + m) (L.length + m), .slice (some ⟨g2, 0, none⟩) (cs.length + m) (cs.length + m), .slice (some ⟨g3, 0, none⟩) (gs.length + m) (gs.length + m)] 26)) w2.heap.size 26 [.slice (some ⟨g, 0, none⟩) (L.length + m) (L.length + m), .slice (some ⟨g2, 0, none⟩) (cs.length + m) (cs.length + m), .slice (some ⟨g3, 0, none⟩) (gs.length + m) (gs.length + m)] :=
    ⟨(Below.refl _ _).alloc (Nat.le_refl _) _, by unfold Row; rw [heap_alloc_new]⟩
  have hb13 := Below.then' HB2.out hbn HB2.out.size
  have HLQ3 := hid (HLQ2.out.mono hbn)
  have HRO3 := hid (HRO1.out.mono hb13)
  have HRK3 := hid (HRK1.out.mono hb13)
  have HRL3 := hid hrn
  have HBW3 := hid (Below.then' HBW1.out hb13 HBW1.out.size)
  have hgl : w.heap.size < w2.heap.size := by have := HB2.out.size; omega
  clear HLQ2 HB2 HRO1 HRK1 HBW1 hb13 hbn hrn a0 a1 a2
  generalize w2.alloc (.cells #[.slice (some ⟨g, 0, none⟩) (L.length + m) (L.length + m), .slice (some ⟨g2, 0, none⟩) (cs.length + m) (cs.length + m), .slice (some ⟨g3, 0, none⟩) (gs.length + m) (gs.length + m)] 26) = w3 at *
  generalize w2.heap.size = gl at *
  obtain ⟨a0, a1, a2⟩ := cell3 HRO3.out
  obtain ⟨l0, l1, l2⟩ := cell3 HRL3.out
  have i1 : (ks.length : Int) ≤ (ks.length : Int) + (m : Int) := by omega
  have HCUT := hid (fun (w2 : World) => cutQuery_any g g2 g3 (L.length + m) (cs.length + m) (gs.length + m) (L.length + m) (cs.length + m) (gs.length + m) L.length cs.length gs.length c1 c2 c3 A1 A2 A3 w2 (by omega) (by omega) (by omega))
  go_region_held3 (fun w' => w'.cell? ⟨w.heap.size, 0, none⟩ = some (.slice A1 L.length c1) ∧ w'.cell? ⟨w.heap.size, 1, none⟩ = some (.slice A2 cs.length c2) ∧ w'.cell? ⟨w.heap.size, 2, none⟩ = some (.slice A3 gs.length c3) ∧ w'.cell? ⟨gl, 0, none⟩ = some (.slice (some ⟨g, 0, none⟩) (L.length + m) (L.length + m)) ∧ w'.cell? ⟨gl, 1, none⟩ = some (.slice (some ⟨g2, 0, none⟩) (cs.length + m) (cs.length + m)) ∧ w'.cell? ⟨gl, 2, none⟩ = some (.slice (some ⟨g3, 0, none⟩) (gs.length + m) (gs.length + m))) (go_keep)
    (first
      | (go_at_call 8; refine (HCUT.out _).mono ?_; rintro e w5 ⟨rfl, hb5⟩; have HB5 := hid ((bdrew (brefl w3) 1).trans hb5); have HLQ5 := hid (HLQ3.out.mono HB5.out); have HRO5 := hid (HRO3.out.mono HB5.out); have HRL5 := hid (HRL3.out.mono HB5.out); have HRK5 := hid (HRK3.out.mono HB5.out); have HBW5 := hid (Below.then' HBW3.out HB5.out HBW3.out.size); obtain ⟨p0, p1, p2⟩ := cell3 HRO5.out; obtain ⟨q0, q1, q2⟩ := cell3 HRL5.out; have HC5 := hid (HLQ5.out.cut B1.out.1 B1.out.2.1 B1.out.2.2.1 B1.out.2.2.2.1); clear hb5)
      | (go_at_call 7; refine (HCK.out _ _ _ _ _ (row_i64 HRK5.out rfl (by omega) B1.out.2.2.2.2) HC5.out.1 HC5.out.2.1 HC5.out.2.2).mono ?_; rintro e w6 ⟨rfl, hb6⟩; have HB6 := hid hb6; have HLQ6 := hid (HLQ5.out.mono hb6); have HRO6 := hid (HRO5.out.mono hb6); have HRL6 := hid (HRL5.out.mono hb6); have HRK6 := hid (HRK5.out.mono hb6); have HBW6 := hid (Below.then' HBW5.out hb6 HBW5.out.size); obtain ⟨r0, r1, r2⟩ := cell3 HRO6.out; obtain ⟨s0, s1, s2⟩ := cell3 HRL6.out; clear hb6))
  clear HLQ3 HRO3 HRL3 HRK3 HBW3 HLQ5 HRO5 HRL5 HRK5 HBW5 HC5 HB5 HB6 a0 a1 a2 l0 l1 l2 p0 p1 p2 q0 q1 q2 HCUT HCK
  have hnn : (N == N) = true := by simp
  have HSI := hid (fun (a b : Nat) (w2 : World) (ra : Row w2 a 3 (i64s (ks ++ tailI m))) (rb : Row w2 b 3 (i64s (ks ++ tailI m))) => by
    have e : (ks ++ tailI m).length = ks.length + m := by rw [List.length_append, tailI_length]
    exact sameInts_same (.slice (some ⟨a, 0, none⟩) (ks.length + m) (ks.length + m)) (.slice (some ⟨b, 0, none⟩) (ks.length + m) (ks.length + m)) (ks ++ tailI m) w2
      (by rw [e]; exact row_i64 (ys := []) (by rw [List.append_nil]; exact ra) e (Nat.le_refl _) B1.out.2.2.2.2) (by rw [e]; exact row_i64 (ys := []) (by rw [List.append_nil]; exact rb) e (Nat.le_refl _) B1.out.2.2.2.2) (by rw [e]; exact B1.out.2.2.2.2))
  have HSQ : Hid (∀ (B B' g' gc' g2' g3' : Nat) (w2 : World), LaidQ B w2 (.agg #[.slice (some ⟨g, 0, none⟩) (L.length + m) (L.length + m), .slice (some ⟨g2, 0, none⟩) (cs.length + m) (cs.length + m), .slice (some ⟨g3, 0, none⟩) (gs.length + m) (gs.length + m)]) L cs gs m g gc g2 g3 → LaidQ B' w2 (.agg #[.slice (some ⟨g', 0, none⟩) (L.length + m) (L.length + m), .slice (some ⟨g2', 0, none⟩) (cs.length + m) (cs.length + m), .slice (some ⟨g3', 0, none⟩) (gs.length + m) (gs.length + m)]) L cs gs m g' gc' g2' g3' →
      Calls Try.prog 11 #[.agg #[.slice (some ⟨g, 0, none⟩) (L.length + m) (L.length + m), .slice (some ⟨g2, 0, none⟩) (cs.length + m) (cs.length + m), .slice (some ⟨g3, 0, none⟩) (gs.length + m) (gs.length + m)], .agg #[.slice (some ⟨g', 0, none⟩) (L.length + m) (L.length + m), .slice (some ⟨g2', 0, none⟩) (cs.length + m) (cs.length + m), .slice (some ⟨g3', 0, none⟩) (gs.length + m) (gs.length + m)]] w2 fun e w' => e = .returned (.bool true) ∧ Below w2.heap.size w2 w') := hid (fun B B' g' gc' g2' g3' w2 h h' => by
    obtain ⟨a1, a2, a3⟩ := h.whole B1.out.1 B1.out.2.1 B1.out.2.2.1 B1.out.2.2.2.1
    obtain ⟨b1, b2, b3⟩ := h'.whole B1.out.1 B1.out.2.1 B1.out.2.2.1 B1.out.2.2.2.1
    exact sameQuery_any _ _ _ _ _ _ (L ++ tailN L.length m) (cs ++ tailI m) (gs ++ tailG gs.length m) w2 a1 a2 a3 b1 b2 b3 (by rw [List.length_append, tailI_length]; exact B1.out.2.2.1))
  have hgl6 : gl < w6.heap.size := HRL6.out.lt
  go_upto_region 4 with fail
  go_region_held3 (fun w' => w'.cell? ⟨w.heap.size, 0, none⟩ = some (.slice A1 L.length c1) ∧ w'.cell? ⟨w.heap.size, 1, none⟩ = some (.slice A2 cs.length c2) ∧ w'.cell? ⟨w.heap.size, 2, none⟩ = some (.slice A3 gs.length c3) ∧ w'.cell? ⟨gl, 0, none⟩ = some (.slice (some ⟨g, 0, none⟩) (L.length + m) (L.length + m)) ∧ w'.cell? ⟨gl, 1, none⟩ = some (.slice (some ⟨g2, 0, none⟩) (cs.length + m) (cs.length + m)) ∧ w'.cell? ⟨gl, 2, none⟩ = some (.slice (some ⟨g3, 0, none⟩) (gs.length + m) (gs.length + m))) (go_keep)
    (first
      | (go_at_call 9; refine (HRC.out _ (bdrew HBW6.out _)).mono ?_; rintro e w7 ⟨rfl, hb7⟩; have HB7 := hid ((bdrew (brefl w6) 1).trans hb7); have HBW7 := hid (Below.then' HBW6.out HB7.out HBW6.out.size); have HRO7 := hid (HRO6.out.mono HB7.out); have HRL7 := hid (HRL6.out.mono HB7.out); have HRK7 := hid (HRK6.out.mono HB7.out); have HLQ7 := hid (HLQ6.out.mono HB7.out); obtain ⟨p0, p1, p2⟩ := cell3 HRO7.out; obtain ⟨q0, q1, q2⟩ := cell3 HRL7.out; clear hb7)
      | (go_at_call 5; refine (HLI.out _ HBW7.out).mono ?_; rintro e w8 ⟨rfl, hr8, hb8, _⟩; have HRI8 := hid hr8; have HB8 := hid hb8; have HBW8 := hid (Below.then' HBW7.out hb8 HBW7.out.size); have HRO8 := hid (HRO7.out.mono hb8); have HRL8 := hid (HRL7.out.mono hb8); have HRK8 := hid (HRK7.out.mono hb8); have HLQ8 := hid (HLQ7.out.mono hb8); obtain ⟨t0, t1, t2⟩ := cell3 HRO8.out; obtain ⟨u0', u1', u2'⟩ := cell3 HRL8.out; clear hr8 hb8)
      | (go_at_call 10; refine (HSI.out _ _ _ HRK8.out HRI8.out).mono ?_; rintro e w9 ⟨rfl, nd9, rfl⟩; have HBW9 := hid (bdrew HBW8.out nd9))
      | (go_at_call 6; refine (HLQ.out _ HBW9.out).mono ?_; rintro e w10 ⟨v', g', gc', g2', g3', rfl, hlq', hb10⟩; have HLQ10' := hid hlq'; have HB10 := hid ((bdrew (brefl w8) nd9).trans hb10); have HBW10 := hid (Below.then' HBW8.out HB10.out HBW8.out.size); have HRO10 := hid (HRO8.out.mono HB10.out); have HRL10 := hid (HRL8.out.mono HB10.out); have HLQ10 := hid (HLQ8.out.mono HB10.out); obtain rfl := hlq'.val; obtain ⟨v0', v1', v2'⟩ := cell3 HRO10.out; obtain ⟨x0', x1', x2'⟩ := cell3 HRL10.out; clear hlq' hb10)
      | (go_at_call 11; refine (HSQ.out _ _ _ _ _ _ _ HLQ10.out HLQ10'.out).mono ?_; rintro e w11 ⟨rfl, hb11⟩; have HB11 := hid hb11; have HRO11 := hid (HRO10.out.mono hb11); have HRL11 := hid (HRL10.out.mono hb11); have HBW11 := hid (Below.then' HBW10.out hb11 HBW10.out.size); obtain ⟨y0', y1', y2'⟩ := cell3 HRO11.out; obtain ⟨z0', z1', z2'⟩ := cell3 HRL11.out; clear hb11))
  all_goals
    go_wp2_with fail
    go_ret
    exact ⟨rfl, HBW11.out⟩
end Go.Proofs.Ytioaeijogjcghaa
