/- The document's Check: nodes, outputs. -/
import Derived.Test.YtioaeijogjcghaaCkf
set_option linter.unusedVariables false
set_option linter.unusedSimpArgs false
set_option linter.unnecessarySimpa false
set_option maxRecDepth 20000
namespace Go.Proofs.Ytioaeijogjcghaa
open Go.RowKit

def nodeR (ks : List Int) (d : Nd) : Bool := if 0 < opsN d.op then decide (d.col = 0) && decide (d.args.length = 0) else colOk ks.length d.col && leafR (ks.getD d.col.toNat 0) d
def nodesR (ks : List Int) (L : List Nd) : Bool := L.all (nodeR ks) && decide (argsN L L.length ≤ 1024)
theorem opsN_pos (op : Int) : 0 < opsN op ↔ (op = 10 ∨ op = 11 ∨ op = 12) := by
  unfold opsN
  by_cases h : op = 12
  · simp [h]
  · by_cases h2 : op = 10 ∨ op = 11
    · rw [if_neg h, if_pos h2]; omega
    · rw [if_neg h, if_neg h2]; omega
set_option maxHeartbeats 8000000 in
theorem refNodesOK_any (v0 v : Value) (ks : List Int) (L : List Nd) (w : World) (hk : Rd w v0 ks.length 1 (i64s ks)) (hx : NsIn w v L) (hl : argsN L L.length ≤ 1048576) : Calls Try.prog 25 #[v0, v] w fun e w' => e = .returned (.bool (nodesR ks L)) ∧ Below w.heap.size w w' := by
  have HX := hid hx
  have HKS := hid hk
  have HLF := hid (fun (k : Int) (d : Nd) (av : Value) (w2 : World) (hr : Rd w2 av d.args.length 3 (cells3 d.args)) => refLeafOK_any k d.op d.col av d.args w2 hr)
  obtain ⟨A, ca, rfl, hlc, hcm, _⟩ := hx
  obtain ⟨A0, ca0, rfl, hlc0, hcm0, _⟩ := hk.form
  clear hk
  obtain ⟨R, hR⟩ : ∃ R, nodesR ks L = R := ⟨_, rfl⟩
  rw [hR]
  unfold nodesR at hR
  have HR := hid hR
  clear hR
  obtain ⟨q, hq⟩ : ∃ q, L.length = q := ⟨_, rfl⟩
  have HQ := hid hq
  rw [hq] at HX hlc HR hl ⊢
  clear hq
  have HL := hid (fun t (h : t ≤ q) => Nat.le_trans (argsN_mono L h) hl)
  clear hl
  unfold maxLen at hcm hcm0
  go_enter Try.func25, Try.ntmps25
  go_wp2_with fail
  go_loopw [5, 10] (fun s i wr => ∃ t : Nat, t ≤ q ∧ i = .int .i64 t ∧ s = .int .i64 (argsN L t : Nat) ∧ Hid (∀ u, u < t → nodeR ks (L.getD u Nd.df) = true) ∧ Hid (Below w.heap.size w wr)) (fun _ i _ => q - (intOf i).toNat)
  case atStart => exact ⟨0, by omega, rfl, rfl, hid (fun u h => absurd h (Nat.not_lt_zero u)), hid (brefl w)⟩
  case round =>
    obtain ⟨t, ht, rfl, rfl, HALL, HBW⟩ := hrel
    by_cases hlt : t < q
    · obtain ⟨b, o, B, c, rfl, c0, c1, c2, hr⟩ := (HX.out.mono HBW.out).at t (by rw [HQ.out]; exact hlt)
      have hn : argsN L (t + 1) ≤ 1048576 := HL.out (t + 1) (by omega)
      have HN : Hid (argsN L (t + 1) = argsN L t + (L.getD t Nd.df).args.length) := hid rfl
      rw [HN.out] at hn
      have HB : Hid (nodeR ks (L.getD t Nd.df) = false → R = false) := hid (fun h => by
        rw [← HR.out, all_not Nd.df t (by rw [HQ.out]; exact hlt) h]; simp)
      have HS : Hid (nodeR ks (L.getD t Nd.df) = true → ∀ u, u < t + 1 → nodeR ks (L.getD u Nd.df) = true) := hid (fun h u hu => by
        by_cases hut : u = t
        · subst hut; exact h
        · exact HALL.out u (by omega))
      have HLFt := hid (fun (k : Int) (w2 : World) (hb : Below wr.heap.size wr w2) => HLF.out k (L.getD t Nd.df) _ w2 (hr.mono hb))
      clear hr HLF
      generalize L.getD t Nd.df = x at *
      obtain ⟨op, col, args⟩ := x
      simp only at c0 c1 c2 HLFt hn HN
      have HND : Hid (nodeR ks ⟨op, col, args⟩ = if 0 < opsN op then decide (col = 0) && decide (args.length = 0) else colOk ks.length col && leafR (ks.getD col.toNat 0) ⟨op, col, args⟩) := hid rfl
      generalize nodeR ks ⟨op, col, args⟩ = kx at *
      generalize hal : args.length = al at *
      generalize hs : argsN L t = sa at *
      have hwr := HBW.out.size
      obtain ⟨ro, hbo⟩ := fresh (w := wr) (C := #[.int .i64 op, .int .i64 col, .slice B al c]) (e := 56)
      have HRO := hid ro; have HBO := hid hbo
      have hgr := HRO.out.lt
      have HBW2 := hid (Below.then' HBW.out HBO.out hwr)
      clear ro hbo
      go_upto_region 5 with fail
      generalize wr.alloc (.cells #[.int .i64 op, .int .i64 col, .slice B al c] 56) = w0 at *
      clear c0 c1 c2
      obtain ⟨k0, k1, k2⟩ := cell3 HRO.out
      by_cases hop : op = 10 ∨ op = 11 ∨ op = 12
      · have hkx : kx = (decide (col = 0) && decide (al = 0)) := by rw [HND.out, if_pos ((opsN_pos op).2 hop)]
        clear HND HLFt
        by_cases hg : col = 0 ∧ al = 0
        · obtain ⟨rfl, rfl⟩ := hg
          have HS2 := hid (HS.out (by rw [hkx]; rfl))
          have hsr : (argsN L (t + 1) : Nat) = sa := by rw [HN.out]; omega
          have HSR := hid hsr
          have hn2 : sa ≤ 1048576 := by omega
          clear hkx hsr hn
          rcases hop with rfl | rfl | rfl
          all_goals
            go_wp2_with fail
            go_roundw
            case rel => exact ⟨t + 1, by omega, by go_num, by rw [HSR.out], HS2, HBW2⟩
            case measure => simp [intOf]; omega
        · obtain rfl : R = false := HB.out (by rw [hkx]; by_cases h : col = 0 <;> simp [h] <;> omega)
          by_cases hc : col = 0
          · have hal0 : ((al : Int) != 0) = true := by simp; omega
            subst hc
            clear hkx hn
            rcases hop with rfl | rfl | rfl
            all_goals
              go_wp2_with fail
              go_ret
              exact ⟨rfl, HBW2.out⟩
          · have hc0 : (col != 0) = true := by simp [hc]
            clear hkx hn
            rcases hop with rfl | rfl | rfl
            all_goals
              go_wp2_with fail
              go_ret
              exact ⟨rfl, HBW2.out⟩
      · have e10 : (op == 10) = false := by simp; omega
        have e11 : (op == 11) = false := by simp; omega
        have e12 : (op == 12) = false := by simp; omega
        have hkx : kx = (colOk ks.length col && leafR (ks.getD col.toNat 0) ⟨op, col, args⟩) := by rw [HND.out, if_neg (fun h => hop ((opsN_pos op).1 h))]
        have HKX := hid hkx
        clear HND hkx hop
        by_cases hc0 : col < 0
        · obtain rfl : R = false := HB.out (by rw [HKX.out]; unfold colOk; simp; omega)
          go_upto_region 9 with fail
          go_quiet (fail)
          go_wp2_with fail
          go_ret
          exact ⟨rfl, bdrew HBW2.out _⟩
        by_cases hc1 : (ks.length : Int) ≤ col
        · obtain rfl : R = false := HB.out (by rw [HKX.out]; unfold colOk; simp; omega)
          go_upto_region 9 with fail
          go_quiet (fail)
          go_wp2_with fail
          go_ret
          exact ⟨rfl, bdrew HBW2.out _⟩
        obtain ⟨cc, rfl⟩ := Int.eq_ofNat_of_zero_le (show 0 ≤ col by omega)
        have hccl : cc < ks.length := by omega
        obtain ⟨b2, o2, rfl, hs2⟩ := (HKS.out.mono HBW2.out).at (by omega)
        have d1 := hs2.int cc hccl
        have HKX2 : Hid (kx = leafR (ks.getD cc 0) ⟨op, cc, args⟩) := hid (by
          rw [HKX.out]; unfold colOk
          have h1 : (0 : Int) ≤ (cc : Int) := by omega
          have h2 : (cc : Int) < (ks.length : Int) := by omega
          rw [decide_eq_true h1, decide_eq_true h2]; rfl)
        have HLFk := hid (fun (w2 : World) (hb : Below wr.heap.size wr w2) => HLFt.out (ks.getD cc 0) w2 hb)
        rw [← HKX2.out] at HLFk
        clear hs2 HKX HKX2 HLFt
        generalize ks.getD cc 0 = x at *
        have hcl1 : (cc : Int) < (ks.length : Int) := by omega
        have hcl2 : (0 : Int) ≤ (cc : Int) := by omega
        have hbl : b2 < w0.heap.size := World.block_lt_of_cell? w0 _ d1
        cases kx
        · obtain rfl : R = false := HB.out rfl
          go_upto_region 9 with fail
          go_region_held3 (fun w' => w'.cell? ⟨wr.heap.size, 0, none⟩ = some (.int .i64 op) ∧ w'.cell? ⟨wr.heap.size, 1, none⟩ = some (.int .i64 cc) ∧ w'.cell? ⟨wr.heap.size, 2, none⟩ = some (.slice B al c) ∧ w'.cell? ⟨b2, o2 + cc, none⟩ = some (.int .i64 x)) (go_keep)
            (first
              | (go_at_call 43; refine (HLFk.out _ (bdrew HBO.out _)).mono ?_; rintro e w3 ⟨rfl, hb3⟩; have HB3 := hid hb3; have m0 := (hb3.cell (p := ⟨wr.heap.size, 0, none⟩) hgr).trans k0; have m1 := (hb3.cell (p := ⟨wr.heap.size, 1, none⟩) hgr).trans k1; have m2 := (hb3.cell (p := ⟨wr.heap.size, 2, none⟩) hgr).trans k2; have m3 := (hb3.cell (p := ⟨b2, o2 + cc, none⟩) hbl).trans d1; clear hb3))
          all_goals
            go_wp2_with fail
            go_ret
            exact ⟨rfl, Below.then' (bdrew HBW2.out 1) HB3.out HBW2.out.size⟩
        · have HS2 := hid (HS.out rfl)
          go_upto_region 9 with fail
          go_region_held3 (fun w' => w'.cell? ⟨wr.heap.size, 0, none⟩ = some (.int .i64 op) ∧ w'.cell? ⟨wr.heap.size, 1, none⟩ = some (.int .i64 cc) ∧ w'.cell? ⟨wr.heap.size, 2, none⟩ = some (.slice B al c) ∧ w'.cell? ⟨b2, o2 + cc, none⟩ = some (.int .i64 x)) (go_keep)
            (first
              | (go_at_call 43; refine (HLFk.out _ (bdrew HBO.out _)).mono ?_; rintro e w3 ⟨rfl, hb3⟩; have HB3 := hid hb3; have m0 := (hb3.cell (p := ⟨wr.heap.size, 0, none⟩) hgr).trans k0; have m1 := (hb3.cell (p := ⟨wr.heap.size, 1, none⟩) hgr).trans k1; have m2 := (hb3.cell (p := ⟨wr.heap.size, 2, none⟩) hgr).trans k2; have m3 := (hb3.cell (p := ⟨b2, o2 + cc, none⟩) hbl).trans d1; clear hb3))
          all_goals
            go_wp2_with fail
            go_roundw
            case rel => exact ⟨t + 1, by omega, by go_num, by rw [HN.out]; go_num, HS2, hid (Below.then' (bdrew HBW2.out 1) HB3.out HBW2.out.size)⟩
            case measure => simp [intOf]; omega
    · obtain rfl : t = q := by omega
      have hR2 : R = decide (argsN L t ≤ 1024) := by
        rw [← HR.out, all_of (L := L) (p := nodeR ks) Nd.df (fun j hj => HALL.out j (by rw [← HQ.out]; exact hj))]
        simp
      clear HR
      generalize argsN L t = n at *
      by_cases hn : n ≤ 1024
      · obtain rfl : R = true := by rw [hR2]; simp [hn]
        clear hR2
        go_wp2_with fail
        go_ret
        exact ⟨ret_bool (by simp; omega), HBW.out⟩
      · obtain rfl : R = false := by rw [hR2]; simp [hn]
        clear hR2
        go_wp2_with fail
        go_ret
        exact ⟨ret_bool (by simp; omega), HBW.out⟩
end Go.Proofs.Ytioaeijogjcghaa
