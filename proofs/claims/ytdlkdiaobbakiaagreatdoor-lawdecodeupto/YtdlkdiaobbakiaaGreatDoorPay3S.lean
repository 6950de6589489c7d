/- Package chunk: runs off the reader. -/
import Derived.Test.YtdlkdiaobbakiaaGreatDoorPay2S
set_option linter.unusedVariables false
set_option linter.unusedSimpArgs false
set_option linter.unnecessarySimpa false
set_option maxRecDepth 100000
namespace Go.Proofs.YtdlkdiaobbakiaaGreatDoor
open Go.RowKit

def outRuns_S (wd : Int) (k : Nat) (xs : List Nat) (s : Bool) : Out_S :=
  if wd ≠ 0 ∨ runEnds (nI (numL 4 (tk (4 * L.wordOf 8 (tk 4 xs)) (tkL 4 xs)))) k = false then
    { b := false, left := tkL (4 * L.wordOf 8 (tk 4 xs)) (tkL 4 xs), short := tkS (4 * L.wordOf 8 (tk 4 xs)) (tkL 4 xs) (tkS 4 xs s), list := [], ends := numL 4 (tk (4 * L.wordOf 8 (tk 4 xs)) (tkL 4 xs)), lanes := [] }
  else match rdS (L.wordOf 8 (tk 4 xs)) (tkL (4 * L.wordOf 8 (tk 4 xs)) (tkL 4 xs)) (tkS (4 * L.wordOf 8 (tk 4 xs)) (tkL 4 xs) (tkS 4 xs s)) with
    | (vals, ok, xl, s3) => { b := ok && noPair eqS vals, left := xl, short := s3, list := vals, ends := numL 4 (tk (4 * L.wordOf 8 (tk 4 xs)) (tkL 4 xs)), lanes := [] }

set_option maxHeartbeats 8000000 in
theorem readRuns_S (w0 w : World) (g gr : Nat) (xs : List Nat) (s : Bool) (rows codec wd : Int) (k : Nat) (nulls bef : Value) (base : Int)
    (hc : Row w g 74 (ck_S rows codec wd nulls k nilS nilS base nilS kind_S bef)) (hr : RdrAt w0 w gr xs s) (hne : g ≠ gr) (hg0 : w0.heap.size ≤ g) (hgs : gr < w.heap.size)
    (hv : ∀ x ∈ xs, x < 256) (hl : xs.length ≤ 1048576) (hk : k ≤ 65536) :
    Calls Tryz.prog 99 #[.pointer (some ⟨g, 0, none⟩), .pointer (some ⟨gr, 0, none⟩)] w fun e w' =>
      e = .returned (.bool (outRuns_S wd k xs s).b) ∧ OutAt_S w0 w w' w.heap.size g gr rows codec wd k nulls kind_S bef base (outRuns_S wd k xs s) := by
  have hU := U32_any w0 w gr xs s hr hv hl
  have hd32 : L.wordOf 8 (tk 4 xs) < 4294967296 := wordOf4_lt _ (tk_lt hv) (tk_le 4 xs)
  obtain ⟨O, hO⟩ : ∃ O, outRuns_S wd k xs s = O := ⟨_, rfl⟩
  have HO := hid hO
  unfold outRuns_S at HO
  rw [hO]
  clear hO
  obtain ⟨d, hd⟩ : ∃ d, L.wordOf 8 (tk 4 xs) = d := ⟨_, rfl⟩
  obtain ⟨xs1, hx1⟩ : ∃ xs1, tkL 4 xs = xs1 := ⟨_, rfl⟩
  obtain ⟨s1, hs1⟩ : ∃ s1, tkS 4 xs s = s1 := ⟨_, rfl⟩
  have hxl1 : xs1.length ≤ 1048576 := by rw [← hx1]; exact Nat.le_trans (tkL_le _ _) hl
  have hxv1 : ∀ x ∈ xs1, x < 256 := by rw [← hx1]; exact tkL_lt hv
  rw [hd, hx1, hs1] at hU HO
  rw [hd] at hd32
  obtain ⟨es, hes⟩ : ∃ es, numL 4 (tk (4 * d) xs1) = es := ⟨_, rfl⟩
  obtain ⟨xs2, hx2⟩ : ∃ xs2, tkL (4 * d) xs1 = xs2 := ⟨_, rfl⟩
  obtain ⟨s2, hs2⟩ : ∃ s2, tkS (4 * d) xs1 s1 = s2 := ⟨_, rfl⟩
  have hxl2 : xs2.length ≤ 1048576 := by rw [← hx2]; exact Nat.le_trans (tkL_le _ _) hxl1
  have hxv2 : ∀ x ∈ xs2, x < 256 := by rw [← hx2]; exact tkL_lt hxv1
  have hel : es.length ≤ 1048576 := by
    rw [← hes, numL_length]; unfold tk; split
    · rw [List.length_take]; omega
    · simp
  rw [hes, hx2, hs2] at HO
  have HUS := hid (fun (w2 : World) (h2 : RdrAt w0 w2 gr xs1 s1) (hg2 : gr < w2.heap.size) => U32s_any w0 w2 gr xs1 s1 d h2 hg2 hxv1 hxl1 (by omega))
  rw [hes, hx2, hs2] at HUS
  have HU := hid hU
  have HC := hid hc
  have hgw : g < w.heap.size := hc.lt
  clear hU hc hr hd hx1 hs1 hes hx2 hs2 hv hl
  obtain ⟨B, hB⟩ : ∃ B, w.heap.size = B := ⟨_, rfl⟩
  have HB := hid hB
  rw [hB]
  clear hB
  have hm := m_readList_S
  have hgB : g < B := by have := HB.out; omega
  have hrB : gr < B := by have := HB.out; omega
  go_enter Tryz.func99, Tryz.ntmps99
  go_upto_region 2 with (first | (go_at_call 131; refine HU.out.mono ?_; rintro e w1 ⟨rfl, ha1, hc1⟩; have HA1 := hid ha1; have HC1 := hid (Chg.wide' (a := g) hc1); have HCK1 := hid (hc1.row HC.out hne hne); clear ha1 hc1))
  have hgr1 : gr < w1.heap.size := Nat.lt_of_lt_of_le hgs HC1.out.size
  have hB1 : B ≤ w1.heap.size := by have := HB.out; have := HC1.out.size; omega
  clear HU HC
  go_wp2_with fail
  refine (HUS.out w1 HA1.out hgr1).mono ?_
  rintro e w2 ⟨p, hp, rfl, hrow2, ha2, hc2⟩
  have hpB : B ≤ p := Nat.le_trans hB1 hp
  have hpg : p ≠ g := by omega
  have hpr : p ≠ gr := by omega
  have HCK2 := hid (hc2.row HCK1.out hne hne)
  have e6 : w2.cell? ⟨g, 0 + 6, none⟩ = some nilS := by rw [HCK2.out.cell]; rfl
  have f6 := HCK2.out.frozen (0 + 6)
  have hch := (Chg.refl g g w2).setCell g 6 (.slice (some ⟨p, 0, none⟩) es.length es.length) (.inl rfl)
  have HCK3 : Hid (Row (w2.setCell ⟨g, 6, none⟩ (.slice (some ⟨p, 0, none⟩) es.length es.length)) g 74 (ck_S rows codec wd nulls k nilS (.slice (some ⟨p, 0, none⟩) es.length es.length) base nilS kind_S bef)) := hid (HCK2.out.set 6 _)
  have HR3 := hid (hch.row hrow2 hpg hpg)
  have HA3 := hid (ha2.chg hch (Ne.symm hne) (Ne.symm hne) hg0 hg0)
  have HC3 := hid ((HC1.out.trans (Chg.wide' (a := g) hc2)).setCell g 6 (.slice (some ⟨p, 0, none⟩) es.length es.length) (.inl rfl))
  have hgr3 : gr < (w2.setCell ⟨g, 6, none⟩ (.slice (some ⟨p, 0, none⟩) es.length es.length)).heap.size := Nat.lt_of_lt_of_le hgs HC3.out.size
  have hB3 : B ≤ (w2.setCell ⟨g, 6, none⟩ (.slice (some ⟨p, 0, none⟩) es.length es.length)).heap.size := Nat.le_trans hB1 (Nat.le_trans hc2.size hch.size)
  clear hrow2 ha2 hc2 HA1 HC1 HCK1 HCK2 hch hgr1 hB1 HUS hp
  go_upto_region 3 with fail
  clear e6 f6
  generalize w2.setCell ⟨g, 6, none⟩ (.slice (some ⟨p, 0, none⟩) es.length es.length) = w3 at *
  have HOE := hid (HR3.out.owns (B := B) (n := es.length) hpB (by simp [i64s, nI]) (by unfold maxLen; omega))
  have HFAIL : Hid (∀ n, OutAt_S w0 w (w3.drewN n) B g gr rows codec wd k nulls kind_S bef base { b := false, left := xs2, short := s2, list := [], ends := es, lanes := [] }) := hid (fun n =>
    ⟨⟨_, _, _, HCK3.out.drewN n, World.ownsRow_nil _ _ _ _, owns_below HOE.out (bdrew (brefl w3) n), World.ownsRow_nil _ _ _ _⟩, HA3.out.mono (bdrew (brefl w3) n), HC3.out.drewN n⟩)
  have e2 : w3.cell? ⟨g, 2, none⟩ = some (.int .i64 wd) := by rw [HCK3.out.cell]; rfl
  have e4 : w3.cell? ⟨g, 4, none⟩ = some (.int .i64 k) := by rw [HCK3.out.cell]; rfl
  have e6 : w3.cell? ⟨g, 6, none⟩ = some (.slice (some ⟨p, 0, none⟩) es.length es.length) := by rw [HCK3.out.cell]; rfl
  have HEN := hid (fun nd : Nat => areRunEnds_any (.slice (some ⟨p, 0, none⟩) es.length es.length) (nI es) k (w3.drewN nd) (by rw [nI_length]; exact ((HR3.out.drewN nd).rd' (n := es.length) (by simp [i64s, nI]) (by unfold maxLen; omega))) (by rw [nI_length]; unfold maxLen; omega))
  obtain ⟨re, hre⟩ : ∃ re, runEnds (nI es) k = re := ⟨_, rfl⟩
  rw [hre] at HEN HO
  clear hre
  by_cases hw : wd = 0
  case neg =>
    have hO : O = { b := false, left := xs2, short := s2, list := [], ends := es, lanes := [] } := by rw [← HO.out, if_pos (.inl hw)]
    subst hO
    have hw1 : (wd != 0) = true := by rw [bne_iff_ne]; exact hw
    go_wp2_with fail
    go_quiet (fail)
    go_wp2_with fail
    go_ret
    exact ⟨rfl, HFAIL.out _⟩
  case pos =>
    have hw1 : (wd != 0) = false := by rw [hw]; rfl
    cases re
    case false =>
      have hO : O = { b := false, left := xs2, short := s2, list := [], ends := es, lanes := [] } := by rw [← HO.out, if_pos (.inr rfl)]
      subst hO
      clear hw
      go_wp2_with fail
      go_quiet (first | (go_at_call 135; refine Calls.quiet_of_same (HEN.out _)))
      go_wp2_with fail
      go_ret
      exact ⟨rfl, HFAIL.out _⟩
    case true =>
      have hO2 := HO.out
      rw [if_neg (fun h => h.elim (fun h => h hw) (fun h => by cases h))] at hO2
      obtain ⟨vals, ok, xl, s4, hR⟩ : ∃ vals ok xl s4, rdS d xs2 s2 = (vals, ok, xl, s4) := ⟨_, _, _, _, rfl⟩
      rw [hR] at hO2
      simp only at hO2
      have hvl : vals.length ≤ 1048576 := by have := rd_len_S d xs2 s2 hxl2; rw [hR] at this; exact this
      have HO2 := hid hO2
      have HRL := hid (fun (w2 : World) (h : RdrAt w0 w2 gr xs2 s2) (h2 : gr < w2.heap.size) => readListS_any w0 w2 gr xs2 s2 d h h2 hxv2 hxl2 (by omega))
      rw [hR] at HRL
      clear hO2 hR hw HO HFAIL
      go_wp2_with fail
      go_quiet (first | (go_at_call 135; refine Calls.quiet_of_same (HEN.out _)))
      have HA4 := hid (HA3.out.mono (bdrew (brefl w3) nq))
      have HC4 := hid (HC3.out.drewN nq)
      have HCK4 := hid (HCK3.out.drewN nq)
      have HOE4 := hid (owns_below HOE.out (bdrew (brefl w3) nq))
      have hgr4 : gr < (w3.drewN nq).heap.size := hgr3
      have hB4 : B ≤ (w3.drewN nq).heap.size := hB3
      clear HA3 HC3 HCK3 HOE HR3 e2 e4 e6 HEN hgr3 hB3
      generalize w3.drewN nq = w4 at *
      have d9 : w4.cell? ⟨g, 0 + 9, none⟩ = some (.iface 44 (.agg #[])) := by rw [HCK4.out.cell]; rfl
      go_wp2_with fail
      refine (HRL.out w4 HA4.out hgr4).mono ?_
      rintro e w5 ⟨v3, rfl, ho3, ha3, hc3⟩
      obtain ⟨A3, c3, rfl, hcc3, _, _, _⟩ := owns_form ho3
      have HO5 := hid (owns_mono_S ho3 hB4)
      have HA5 := hid ha3
      have HC5 := hid (HC4.out.trans (Chg.wide' (a := g) hc3))
      have HCK5 := hid (hc3.row HCK4.out hne hne)
      have HOE5 := hid (owns_chg HOE4.out hc3 hrB hrB)
      have e5 : w5.cell? ⟨g, 0 + 5, none⟩ = some nilS := by rw [HCK5.out.cell]; rfl
      have f5 := HCK5.out.frozen (0 + 5)
      have hch6 := (Chg.refl g g w5).setCell g 5 (.slice A3 vals.length c3) (.inl rfl)
      have HCK6 : Hid (Row (w5.setCell ⟨g, 5, none⟩ (.slice A3 vals.length c3)) g 74 (ck_S rows codec wd nulls k (.slice A3 vals.length c3) (.slice (some ⟨p, 0, none⟩) es.length es.length) base nilS kind_S bef)) := hid (HCK5.out.set 5 _)
      have HO6 := hid (owns_chg HO5.out hch6 hgB hgB)
      have HOE6 := hid (owns_chg HOE5.out hch6 hgB hgB)
      have HA6 := hid (HA5.out.chg hch6 (Ne.symm hne) (Ne.symm hne) hg0 hg0)
      have HC6 := hid (HC5.out.setCell g 5 (.slice A3 vals.length c3) (.inl rfl))
      clear ho3 ha3 hc3 hcc3 HA4 HC4 HCK4 HOE4 d9 HRL HO5 HA5 HC5 HCK5 HOE5 hch6 hm hgr4 hB4
      go_upto_region 7 with fail
      clear e5 f5
      generalize w5.setCell ⟨g, 5, none⟩ (.slice A3 vals.length c3) = w6 at *
      have HDF := hid (differS_any _ vals w6 (owns_rd HO6.out) (by unfold maxLen; omega))
      have HO7 := hid (fun (n : Nat) (b : Bool) => (⟨⟨_, _, _, HCK6.out.drewN n, owns_below HO6.out (bdrew (brefl w6) n), owns_below HOE6.out (bdrew (brefl w6) n), World.ownsRow_nil _ _ _ _⟩, HA6.out.mono (bdrew (brefl w6) n), HC6.out.drewN n⟩ : OutAt_S w0 w (w6.drewN n) B g gr rows codec wd k nulls kind_S bef base { b := b, left := xl, short := s4, list := vals, ends := es, lanes := [] }))
      obtain ⟨df, hdf⟩ : ∃ df, noPair eqS vals = df := ⟨_, rfl⟩
      rw [hdf] at HDF HO2
      clear hdf
      have hO := HO2.out
      subst hO
      clear HO2
      cases ok
      case' false =>
        go_wp2_with fail
        go_ret
        exact ⟨rfl, HO7.out 0 _⟩
      case' true =>
        go_wp2_with (go_at_call 136; refine HDF.out.mono ?_; rintro e w7 ⟨rfl, n7, rfl⟩)
        go_ret
        exact ⟨rfl, HO7.out _ _⟩
end Go.Proofs.YtdlkdiaobbakiaaGreatDoor
