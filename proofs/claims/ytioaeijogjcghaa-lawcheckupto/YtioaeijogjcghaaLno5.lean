/- The law's own helpers over queries: sameQuery. -/
import Derived.Test.YtioaeijogjcghaaLno4
set_option linter.unusedVariables false
set_option linter.unusedSimpArgs false
set_option linter.unnecessarySimpa false
set_option maxRecDepth 20000
namespace Go.Proofs.Ytioaeijogjcghaa
open Go.RowKit

set_option maxHeartbeats 8000000 in
theorem sameQuery_any (x1 x2 x3 y1 y2 y3 : Value) (L : List Nd) (cs : List Int) (gs : List Ag) (w : World) (h1 : NsIn w x1 L) (h2 : Rd w x2 cs.length 1 (i64s cs)) (h3 : Rd w x3 gs.length 2 (ags gs)) (k1 : NsIn w y1 L) (k2 : Rd w y2 cs.length 1 (i64s cs)) (k3 : Rd w y3 gs.length 2 (ags gs)) (hcl : cs.length ≤ maxLen) :
    Calls Try.prog 11 #[.agg #[x1, x2, x3], .agg #[y1, y2, y3]] w fun e w' => e = .returned (.bool true) ∧ Below w.heap.size w w' := by
  have HS := hid (fun (w2 : World) (hb : Below w.heap.size w w2) => sameInts_same x2 y2 cs w2 (h2.mono hb) (k2.mono hb) hcl)
  have HX := hid h1; have HY := hid k1; have HG := hid h3; have HK := hid k3
  obtain ⟨A1, c1, rfl, hlc1, hcm1, _⟩ := h1
  obtain ⟨B1, d1, rfl, _, hcm2, _⟩ := k1
  obtain ⟨A2, c2, rfl, _, _, _⟩ := h2.form
  obtain ⟨B2, d2, rfl, _, _, _⟩ := k2.form
  obtain ⟨A3, c3, rfl, hlc3, hcm3, _⟩ := h3.form
  obtain ⟨B3, d3, rfl, _, _, _⟩ := k3.form
  clear h2 h3 k2 k3
  obtain ⟨n1, hn1⟩ : ∃ n, L.length = n := ⟨_, rfl⟩
  obtain ⟨n2, hn2⟩ : ∃ n, cs.length = n := ⟨_, rfl⟩
  obtain ⟨n3, hn3⟩ : ∃ n, gs.length = n := ⟨_, rfl⟩
  have HN1 := hid hn1; have HN3 := hid hn3
  rw [hn1] at HX HY hlc1 ⊢
  rw [hn2] at HS ⊢
  rw [hn3] at HG HK hlc3 ⊢
  clear hn1 hn2 hn3 hcl
  unfold maxLen at hcm1 hcm3
  go_enter Try.func11, Try.ntmps11
  go_upto_region 1 with fail
  obtain ⟨ra, rb, hbw⟩ := rows2e (w := w) (X := #[.slice A1 n1 c1, .slice A2 n2 c2, .slice A3 n3 c3]) (Y := #[.slice B1 n1 d1, .slice B2 n2 d2, .slice B3 n3 d3]) (eX := 26) (eY := 26) rfl
  have HRA := hid ra; have HRB := hid rb; have HBW := hid hbw
  clear ra rb hbw
  generalize (w.alloc (.cells #[.slice A1 n1 c1, .slice A2 n2 c2, .slice A3 n3 c3] 26)).alloc (.cells #[.slice B1 n1 d1, .slice B2 n2 d2, .slice B3 n3 d3] 26) = w0 at *
  obtain ⟨a0, a1, a2⟩ := cell3 HRA.out
  obtain ⟨b0, b1, b2⟩ := cell3 HRB.out
  have e1 : ((n1 : Int) != (n1 : Int)) = false := by simp
  have e3 : ((n3 : Int) != (n3 : Int)) = false := by simp
  go_upto_region 3 with (go_at_call 10; refine (HS.out _ HBW.out).mono ?_; rintro e w1 ⟨rfl, nd1, rfl⟩)
  clear a0 a1 a2 b0 b1 b2
  have HRA2 : Hid (Row (w0.drewN nd1) w.heap.size 26 [.slice A1 n1 c1, .slice A2 n2 c2, .slice A3 n3 c3]) := HRA
  have HRB2 : Hid (Row (w0.drewN nd1) (w.heap.size + 1) 26 [.slice B1 n1 d1, .slice B2 n2 d2, .slice B3 n3 d3]) := HRB
  have HBW2 : Hid (Below w.heap.size w (w0.drewN nd1)) := hid (bdrew HBW.out nd1)
  clear HRA HRB HBW HS
  generalize w0.drewN nd1 = w2 at *
  obtain ⟨a0, a1, a2⟩ := cell3 HRA2.out
  obtain ⟨b0, b1, b2⟩ := cell3 HRB2.out
  go_wp2_with fail
  clear a0 a1 a2 b0 b1 b2
  go_loopw [34] (fun i wr => ∃ t : Nat, t ≤ n1 ∧ i = .int .i64 t ∧ Hid (Row wr w.heap.size 26 [.slice A1 n1 c1, .slice A2 n2 c2, .slice A3 n3 c3]) ∧ Hid (Row wr (w.heap.size + 1) 26 [.slice B1 n1 d1, .slice B2 n2 d2, .slice B3 n3 d3]) ∧ Hid (Below w.heap.size w wr)) (fun i _ => n1 - (intOf i).toNat)
  case atStart => exact ⟨0, by omega, rfl, HRA2, HRB2, HBW2⟩
  case round =>
    obtain ⟨t, ht, rfl, HRA, HRB, HBW⟩ := hrel
    clear HRA2 HRB2 HBW2
    have nd : ∀ (k b : Nat) (e : TypeId) (cs : List Value), Row wr b e cs → Row (wr.drewN k) b e cs := fun k b e cs h => h
    obtain ⟨a0, a1, a2⟩ := cell3 HRA.out
    obtain ⟨b0, b1, b2⟩ := cell3 HRB.out
    by_cases hlt : t < n1
    · obtain ⟨b, o, P, c, rfl, m0, m1, m2, hr⟩ := (HX.out.mono HBW.out).at t (by rw [HN1.out]; exact hlt)
      obtain ⟨b', o', P', c', rfl, l0, l1, l2, hr'⟩ := (HY.out.mono HBW.out).at t (by rw [HN1.out]; exact hlt)
      have HSC := hid (fun (k : Nat) => sameCells3 _ _ _ (wr.drewN k) (hr.mono (bdrew (brefl wr) k)) (hr'.mono (bdrew (brefl wr) k)) (by obtain ⟨A, cap, _, h1, h2, _⟩ := hr.form; unfold maxLen at h2; omega))
      clear hr hr'
      generalize L.getD t Nd.df = x at *
      obtain ⟨op, col, args⟩ := x
      simp only at m0 m1 m2 l0 l1 l2 HSC
      generalize args.length = al at *
      have eo : (op != op) = false := by simp
      have ec : (col != col) = false := by simp
      go_upto_region 6 with fail
      go_quiet (first | (go_at_call 16; exact Calls.quiet_of (HSC.out _)))
      go_wp2_with fail
      go_roundw
      case rel => exact ⟨t + 1, by omega, by go_num, hid (nd _ _ _ _ HRA.out), hid (nd _ _ _ _ HRB.out), hid (bdrew HBW.out _)⟩
      case measure => simp [intOf]; omega
    · obtain rfl : t = n1 := by omega
      go_wp2_with fail
      clear a0 a1 a2 b0 b1 b2
      go_loopw [85] (fun i wr => ∃ k : Nat, k ≤ n3 ∧ i = .int .i64 k ∧ Hid (Row wr w.heap.size 26 [.slice A1 t c1, .slice A2 n2 c2, .slice A3 n3 c3]) ∧ Hid (Row wr (w.heap.size + 1) 26 [.slice B1 t d1, .slice B2 n2 d2, .slice B3 n3 d3]) ∧ Hid (Below w.heap.size w wr)) (fun i _ => n3 - (intOf i).toNat)
      case atStart => exact ⟨0, by omega, rfl, HRA, HRB, HBW⟩
      case round =>
        clear HRA HRB HBW nd
        obtain ⟨k, hk, rfl, HRA, HRB, HBW⟩ := hrel
        have nd : ∀ (k b : Nat) (e : TypeId) (cs : List Value), Row wr b e cs → Row (wr.drewN k) b e cs := fun k b e cs h => h
        obtain ⟨a0, a1, a2⟩ := cell3 HRA.out
        obtain ⟨b0, b1, b2⟩ := cell3 HRB.out
        by_cases hlt3 : k < n3
        · obtain ⟨b, o, rfl, hs⟩ := (HG.out.mono HBW.out).at (by omega)
          obtain ⟨b', o', rfl, hs'⟩ := (HK.out.mono HBW.out).at (by omega)
          obtain ⟨m0, m1⟩ := hs.ag k (by rw [HN3.out]; exact hlt3)
          obtain ⟨l0, l1⟩ := hs'.ag k (by rw [HN3.out]; exact hlt3)
          clear hs hs'
          generalize gs.getD k Ag.df = x at *
          obtain ⟨fn, col⟩ := x
          simp only at m0 m1 l0 l1
          have eo : (fn != fn) = false := by simp
          have ec : (col != col) = false := by simp
          go_upto_region 12 with fail
          go_quiet (fail)
          go_wp2_with fail
          go_roundw
          case rel => exact ⟨k + 1, by omega, by go_num, hid (nd _ _ _ _ HRA.out), hid (nd _ _ _ _ HRB.out), hid (bdrew HBW.out _)⟩
          case measure => simp [intOf]; omega
        · obtain rfl : k = n3 := by omega
          go_wp2_with fail
          go_ret
          exact ⟨rfl, HBW.out⟩
end Go.Proofs.Ytioaeijogjcghaa
