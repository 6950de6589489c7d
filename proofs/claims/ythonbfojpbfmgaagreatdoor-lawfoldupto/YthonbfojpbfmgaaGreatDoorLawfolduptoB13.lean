/- Package chunk: runs off the reader. -/
import Derived.Test.YthonbfojpbfmgaaGreatDoorLawfolduptoB12
import Derived.Test.YthonbfojpbfmgaaGreatDoorLawfolduptoB11
import Derived.Test.YthonbfojpbfmgaaGreatDoorLawfolduptoB3
import Derived.Test.YthonbfojpbfmgaaGreatDoorLawfolduptoB5
import Derived.Test.YthonbfojpbfmgaaGreatDoorLawfolduptoB6
import Derived.Laws.StructEq
set_option linter.unusedVariables false
set_option linter.unusedSimpArgs false
set_option linter.unnecessarySimpa false
set_option maxRecDepth 100000
namespace Go.Proofs.YthonbfojpbfmgaaGreatDoor
open Go.RowKit

def outRuns_S (wd : Int) (k : Nat) (xs : List Nat) (s : Bool) : Out_S :=
  if wd ≠ 0 ∨ runEnds (nI (numL 4 (tk (4 * L.wordOf 8 (tk 4 xs)) (tkL 4 xs)))) k = false then
    { b := false, left := tkL (4 * L.wordOf 8 (tk 4 xs)) (tkL 4 xs), short := tkS (4 * L.wordOf 8 (tk 4 xs)) (tkL 4 xs) (tkS 4 xs s), list := [], ends := numL 4 (tk (4 * L.wordOf 8 (tk 4 xs)) (tkL 4 xs)), lanes := [] }
  else match rdS (L.wordOf 8 (tk 4 xs)) (tkL (4 * L.wordOf 8 (tk 4 xs)) (tkL 4 xs)) (tkS (4 * L.wordOf 8 (tk 4 xs)) (tkL 4 xs) (tkS 4 xs s)) with
    | (vals, ok, xl, s3) => { b := ok && noPair eqS vals, left := xl, short := s3, list := vals, ends := numL 4 (tk (4 * L.wordOf 8 (tk 4 xs)) (tkL 4 xs)), lanes := [] }

set_option maxHeartbeats 8000000 in
theorem readRuns_S (w0 w : World) (g gr : Nat) (xs : List Nat) (s : Bool) (rows codec wd : Int) (k : Nat) (nulls bef : Value) (base : Int)
    (hc : Row w g 94 (ck_S rows codec wd nulls k nilS nilS base nilS kind_S bef)) (hr : RdrAt w0 w gr xs s) (hne : g ≠ gr) (hg0 : w0.heap.size ≤ g) (hgs : gr < w.heap.size)
    (hv : ∀ x ∈ xs, x < 256) (hl : xs.length ≤ 16777216) (hk : k ≤ 65536) :
    Calls Tryz.prog 141 #[.pointer (some ⟨g, 0, none⟩), .pointer (some ⟨gr, 0, none⟩)] w fun e w' =>
      e = .returned (.bool (outRuns_S wd k xs s).b) ∧ OutAt_S w0 w w' w.heap.size g gr rows codec wd k nulls kind_S bef base (outRuns_S wd k xs s) := by
  have hU := U32_any w0 w gr xs s hr hv hl
  have hd32 : L.wordOf 8 (tk 4 xs) < 4294967296 := wordOf4_lt _ (tk_lt hv) (tk_le 4 xs)
  obtain ⟨O, hO⟩ : ∃ O, outRuns_S wd k xs s = O := ⟨_, rfl⟩
  have HO := hid hO
  unfold outRuns_S at HO
  rw [hO]
  clear hO
  obtain ⟨d, hd⟩ : ∃ d, L.wordOf 8 (tk 4 xs) = d := ⟨_, rfl⟩
  obtain ⟨xs1, hx1⟩ : ∃ xs1, tkL 4 xs = xs1 := ⟨_, rfl⟩
  obtain ⟨s1, hs1⟩ : ∃ s1, tkS 4 xs s = s1 := ⟨_, rfl⟩
  have hxl1 : xs1.length ≤ 16777216 := by rw [← hx1]; exact Nat.le_trans (tkL_le _ _) hl
  have hxv1 : ∀ x ∈ xs1, x < 256 := by rw [← hx1]; exact tkL_lt hv
  rw [hd, hx1, hs1] at hU HO
  rw [hd] at hd32
  obtain ⟨es, hes⟩ : ∃ es, numL 4 (tk (4 * d) xs1) = es := ⟨_, rfl⟩
  obtain ⟨xs2, hx2⟩ : ∃ xs2, tkL (4 * d) xs1 = xs2 := ⟨_, rfl⟩
  obtain ⟨s2, hs2⟩ : ∃ s2, tkS (4 * d) xs1 s1 = s2 := ⟨_, rfl⟩
  have hxl2 : xs2.length ≤ 16777216 := by rw [← hx2]; exact Nat.le_trans (tkL_le _ _) hxl1
  have hxv2 : ∀ x ∈ xs2, x < 256 := by rw [← hx2]; exact tkL_lt hxv1
  have hel : es.length ≤ 16777216 := by
    rw [← hes, numL_length]; unfold tk; split
    · rw [List.length_take]; omega
    · simp
  rw [hes, hx2, hs2] at HO
  have HUS := hid (fun (w2 : World) (h2 : RdrAt w0 w2 gr xs1 s1) (hg2 : gr < w2.heap.size) => U32s_any w0 w2 gr xs1 s1 d h2 hg2 hxv1 hxl1 (by omega))
  rw [hes, hx2, hs2] at HUS
  have HU := hid hU
  have HC := hid hc
  have hgw : g < w.heap.size := hc.lt
  clear hU hc hr hd hx1 hs1 hes hx2 hs2 hv hl
  obtain ⟨B, hB⟩ : ∃ B, w.heap.size = B := ⟨_, rfl⟩
  have HB := hid hB
  rw [hB]
  clear hB
  have hm := m_readList_S
  have hgB : g < B := by have := HB.out; omega
  have hrB : gr < B := by have := HB.out; omega
  go_enter Tryz.func141, Tryz.ntmps141
  go_upto_region 2 with (first | (go_at_call 183; refine HU.out.mono ?_; rintro e w1 ⟨rfl, ha1, hc1⟩; have HA1 := hid ha1; have HC1 := hid (Chg.wide' (a := g) hc1); have HCK1 := hid (hc1.row HC.out hne hne); clear ha1 hc1))
  have hgr1 : gr < w1.heap.size := Nat.lt_of_lt_of_le hgs HC1.out.size
  have hB1 : B ≤ w1.heap.size := by have := HB.out; have := HC1.out.size; omega
  clear HU HC
  go_wp2_with fail
  refine (HUS.out w1 HA1.out hgr1).mono ?_
  rintro e w2 ⟨p, hp, rfl, hrow2, ha2, hc2⟩
  have hpB : B ≤ p := Nat.le_trans hB1 hp
  have hpg : p ≠ g := by omega
  have hpr : p ≠ gr := by omega
  have HCK2 := hid (hc2.row HCK1.out hne hne)
  have e6 : w2.cell? ⟨g, 0 + 6, none⟩ = some nilS := by rw [HCK2.out.cell]; rfl
  have f6 := HCK2.out.frozen (0 + 6)
  have hch := (Chg.refl g g w2).setCell g 6 (.slice (some ⟨p, 0, none⟩) es.length es.length) (.inl rfl)
  have HCK3 : Hid (Row (w2.setCell ⟨g, 6, none⟩ (.slice (some ⟨p, 0, none⟩) es.length es.length)) g 94 (ck_S rows codec wd nulls k nilS (.slice (some ⟨p, 0, none⟩) es.length es.length) base nilS kind_S bef)) := hid (HCK2.out.set 6 _)
  have HR3 := hid (hch.row hrow2 hpg hpg)
  have HA3 := hid (ha2.chg hch (Ne.symm hne) (Ne.symm hne) hg0 hg0)
  have HC3 := hid ((HC1.out.trans (Chg.wide' (a := g) hc2)).setCell g 6 (.slice (some ⟨p, 0, none⟩) es.length es.length) (.inl rfl))
  have hgr3 : gr < (w2.setCell ⟨g, 6, none⟩ (.slice (some ⟨p, 0, none⟩) es.length es.length)).heap.size := Nat.lt_of_lt_of_le hgs HC3.out.size
  have hB3 : B ≤ (w2.setCell ⟨g, 6, none⟩ (.slice (some ⟨p, 0, none⟩) es.length es.length)).heap.size := Nat.le_trans hB1 (Nat.le_trans hc2.size hch.size)
  clear hrow2 ha2 hc2 HA1 HC1 HCK1 HCK2 hch hgr1 hB1 HUS hp
  go_upto_region 3 with fail
  clear e6 f6
  generalize w2.setCell ⟨g, 6, none⟩ (.slice (some ⟨p, 0, none⟩) es.length es.length) = w3 at *
  have HOE := hid (HR3.out.owns (B := B) (n := es.length) hpB (by simp [i64s, nI]) (by unfold maxLen; omega))
  have HFAIL : Hid (∀ n, OutAt_S w0 w (w3.drewN n) B g gr rows codec wd k nulls kind_S bef base { b := false, left := xs2, short := s2, list := [], ends := es, lanes := [] }) := hid (fun n =>
    ⟨⟨_, _, _, HCK3.out.drewN n, World.ownsRow_nil _ _ _ _, owns_below HOE.out (bdrew (brefl w3) n), World.ownsRow_nil _ _ _ _⟩, HA3.out.mono (bdrew (brefl w3) n), HC3.out.drewN n⟩)
  have e2 : w3.cell? ⟨g, 2, none⟩ = some (.int .i64 wd) := by rw [HCK3.out.cell]; rfl
  have e4 : w3.cell? ⟨g, 4, none⟩ = some (.int .i64 k) := by rw [HCK3.out.cell]; rfl
  have e6 : w3.cell? ⟨g, 6, none⟩ = some (.slice (some ⟨p, 0, none⟩) es.length es.length) := by rw [HCK3.out.cell]; rfl
  have HEN := hid (fun nd : Nat => areRunEnds_any (.slice (some ⟨p, 0, none⟩) es.length es.length) (nI es) k (w3.drewN nd) (by rw [nI_length]; exact ((HR3.out.drewN nd).rd' (n := es.length) (by simp [i64s, nI]) (by unfold maxLen; omega))) (by rw [nI_length]; unfold maxLen; omega))
  obtain ⟨re, hre⟩ : ∃ re, runEnds (nI es) k = re := ⟨_, rfl⟩
  rw [hre] at HEN HO
  clear hre
  by_cases hw : wd = 0
  case neg =>
    have hO : O = { b := false, left := xs2, short := s2, list := [], ends := es, lanes := [] } := by rw [← HO.out, if_pos (.inl hw)]
    subst hO
    have hw1 : (wd != 0) = true := by rw [bne_iff_ne]; exact hw
    go_wp2_with fail
    go_quiet (fail)
    go_wp2_with fail
    go_ret
    exact ⟨rfl, HFAIL.out _⟩
  case pos =>
    have hw1 : (wd != 0) = false := by rw [hw]; rfl
    cases re
    case false =>
      have hO : O = { b := false, left := xs2, short := s2, list := [], ends := es, lanes := [] } := by rw [← HO.out, if_pos (.inr rfl)]
      subst hO
      clear hw
      go_wp2_with fail
      go_quiet (first | (go_at_call 188; refine Calls.quiet_of_same (HEN.out _)))
      go_wp2_with fail
      go_ret
      exact ⟨rfl, HFAIL.out _⟩
    case true =>
      have hO2 := HO.out
      rw [if_neg (fun h => h.elim (fun h => h hw) (fun h => by cases h))] at hO2
      obtain ⟨vals, ok, xl, s4, hR⟩ : ∃ vals ok xl s4, rdS d xs2 s2 = (vals, ok, xl, s4) := ⟨_, _, _, _, rfl⟩
      rw [hR] at hO2
      simp only at hO2
      have hvl : vals.length ≤ 16777216 := by have := rd_len_S d xs2 s2 hxl2; rw [hR] at this; exact this
      have HO2 := hid hO2
      have HRL := hid (fun (w2 : World) (h : RdrAt w0 w2 gr xs2 s2) (h2 : gr < w2.heap.size) => readListS_any w0 w2 gr xs2 s2 d h h2 hxv2 hxl2 (by omega))
      rw [hR] at HRL
      clear hO2 hR hw HO HFAIL
      go_wp2_with fail
      go_quiet (first | (go_at_call 188; refine Calls.quiet_of_same (HEN.out _)))
      have HA4 := hid (HA3.out.mono (bdrew (brefl w3) nq))
      have HC4 := hid (HC3.out.drewN nq)
      have HCK4 := hid (HCK3.out.drewN nq)
      have HOE4 := hid (owns_below HOE.out (bdrew (brefl w3) nq))
      have hgr4 : gr < (w3.drewN nq).heap.size := hgr3
      have hB4 : B ≤ (w3.drewN nq).heap.size := hB3
      clear HA3 HC3 HCK3 HOE HR3 e2 e4 e6 HEN hgr3 hB3
      generalize w3.drewN nq = w4 at *
      have d9 : w4.cell? ⟨g, 0 + 9, none⟩ = some (.iface 66 (.agg #[])) := by rw [HCK4.out.cell]; rfl
      go_wp2_with fail
      refine (HRL.out w4 HA4.out hgr4).mono ?_
      rintro e w5 ⟨v3, rfl, ho3, ha3, hc3⟩
      obtain ⟨A3, c3, rfl, hcc3, _, _, _⟩ := owns_form ho3
      have HO5 := hid (owns_mono_S ho3 hB4)
      have HA5 := hid ha3
      have HC5 := hid (HC4.out.trans (Chg.wide' (a := g) hc3))
      have HCK5 := hid (hc3.row HCK4.out hne hne)
      have HOE5 := hid (owns_chg HOE4.out hc3 hrB hrB)
      have e5 : w5.cell? ⟨g, 0 + 5, none⟩ = some nilS := by rw [HCK5.out.cell]; rfl
      have f5 := HCK5.out.frozen (0 + 5)
      have hch6 := (Chg.refl g g w5).setCell g 5 (.slice A3 vals.length c3) (.inl rfl)
      have HCK6 : Hid (Row (w5.setCell ⟨g, 5, none⟩ (.slice A3 vals.length c3)) g 94 (ck_S rows codec wd nulls k (.slice A3 vals.length c3) (.slice (some ⟨p, 0, none⟩) es.length es.length) base nilS kind_S bef)) := hid (HCK5.out.set 5 _)
      have HO6 := hid (owns_chg HO5.out hch6 hgB hgB)
      have HOE6 := hid (owns_chg HOE5.out hch6 hgB hgB)
      have HA6 := hid (HA5.out.chg hch6 (Ne.symm hne) (Ne.symm hne) hg0 hg0)
      have HC6 := hid (HC5.out.setCell g 5 (.slice A3 vals.length c3) (.inl rfl))
      clear ho3 ha3 hc3 hcc3 HA4 HC4 HCK4 HOE4 d9 HRL HO5 HA5 HC5 HCK5 HOE5 hch6 hm hgr4 hB4
      go_upto_region 7 with fail
      clear e5 f5
      generalize w5.setCell ⟨g, 5, none⟩ (.slice A3 vals.length c3) = w6 at *
      have HDF := hid (differS_any _ vals w6 (owns_rd HO6.out) (by unfold maxLen; omega))
      have HO7 := hid (fun (n : Nat) (b : Bool) => (⟨⟨_, _, _, HCK6.out.drewN n, owns_below HO6.out (bdrew (brefl w6) n), owns_below HOE6.out (bdrew (brefl w6) n), World.ownsRow_nil _ _ _ _⟩, HA6.out.mono (bdrew (brefl w6) n), HC6.out.drewN n⟩ : OutAt_S w0 w (w6.drewN n) B g gr rows codec wd k nulls kind_S bef base { b := b, left := xl, short := s4, list := vals, ends := es, lanes := [] }))
      obtain ⟨df, hdf⟩ : ∃ df, noPair eqS vals = df := ⟨_, rfl⟩
      rw [hdf] at HDF HO2
      clear hdf
      have hO := HO2.out
      subst hO
      clear HO2
      cases ok
      case' false =>
        go_wp2_with fail
        go_ret
        exact ⟨rfl, HO7.out 0 _⟩
      case' true =>
        go_wp2_with (go_at_call 189; refine HDF.out.mono ?_; rintro e w7 ⟨rfl, n7, rfl⟩)
        go_ret
        exact ⟨rfl, HO7.out _ _⟩
end Go.Proofs.YthonbfojpbfmgaaGreatDoor

/- Package chunk: offsets and whole payloads of integers off the reader. -/
set_option linter.unusedVariables false
set_option linter.unusedSimpArgs false
set_option linter.unnecessarySimpa false
set_option maxRecDepth 100000
namespace Go.Proofs.YthonbfojpbfmgaaGreatDoor
open Go.RowKit

def outPay_S (codec : Nat) (wd : Int) (k : Nat) (xs : List Nat) (s : Bool) : Out_S :=
  if codec = 1 then outPlain_S wd k xs s else if codec = 2 then outDict_S wd k xs s else outRuns_S wd k xs s

set_option maxHeartbeats 8000000 in
theorem readPayload_S (w0 w : World) (g gr : Nat) (xs : List Nat) (s : Bool) (rows wd : Int) (codec k : Nat) (nulls bef : Value) (hT : Tab w0)
    (hc : Row w g 94 (ck_S rows codec wd nulls k nilS nilS 0 nilS kind_S bef)) (hr : RdrAt w0 w gr xs s) (hne : g ≠ gr) (hg0 : w0.heap.size ≤ g) (hgs : gr < w.heap.size)
    (hv : ∀ x ∈ xs, x < 256) (hl : xs.length ≤ 16777216) (hk : k ≤ 65536) (hcd : 1 ≤ codec ∧ codec ≤ 3) :
    Calls Tryz.prog 82 #[.pointer (some ⟨g, 0, none⟩), .pointer (some ⟨gr, 0, none⟩)] w fun e w' =>
      e = .returned (.bool (outPay_S codec wd k xs s).b) ∧ OutAt_S w0 w w' w.heap.size g gr rows codec wd k nulls kind_S bef 0 (outPay_S codec wd k xs s) := by
  have c1 : w.cell? ⟨g, 0 + 1, none⟩ = some (.int .i64 codec) := by rw [hc.cell]; rfl
  obtain ⟨O, hO⟩ : ∃ O, outPay_S codec wd k xs s = O := ⟨_, rfl⟩
  rw [hO]
  have HO := hid hO
  have HC := hid hc
  clear hO
  by_cases h1 : codec = 1
  · subst h1
    obtain rfl : outPlain_S wd k xs s = O := by rw [← HO.out]; rfl
    have HP := hid (readPlain_S w0 w g gr xs s rows _ wd k nulls bef 0 hc hr hne hg0 hgs hv hl hk)
    generalize outPlain_S wd k xs s = O at *
    clear hc hr hv hT
    go_enter Tryz.func82, Tryz.ntmps82
    go_wp2_with (go_at_call 139; refine HP.out.mono ?_; rintro e w1 ⟨rfl, h⟩; have H := hid h; clear h)
    go_ret
    exact ⟨rfl, H.out⟩
  by_cases h2 : codec = 2
  · subst h2
    obtain rfl : outDict_S wd k xs s = O := by rw [← HO.out]; rfl
    have HP := hid (readDict_S w0 w g gr xs s rows _ wd k nulls bef 0 hT hc hr hne hg0 hgs hv hl hk)
    generalize outDict_S wd k xs s = O at *
    clear hc hr hv hT
    go_enter Tryz.func82, Tryz.ntmps82
    go_wp2_with (go_at_call 140; refine HP.out.mono ?_; rintro e w1 ⟨rfl, h⟩; have H := hid h; clear h)
    go_ret
    exact ⟨rfl, H.out⟩
  · obtain rfl : codec = 3 := by omega
    obtain rfl : outRuns_S wd k xs s = O := by rw [← HO.out]; rfl
    have HP := hid (readRuns_S w0 w g gr xs s rows _ wd k nulls bef 0 hc hr hne hg0 hgs hv hl hk)
    generalize outRuns_S wd k xs s = O at *
    clear hc hr hv hT
    go_enter Tryz.func82, Tryz.ntmps82
    go_wp2_with (go_at_call 141; refine HP.out.mono ?_; rintro e w1 ⟨rfl, h⟩; have H := hid h; clear h)
    go_ret
    exact ⟨rfl, H.out⟩
end Go.Proofs.YthonbfojpbfmgaaGreatDoor

/- Package chunk: a body looked through. -/
set_option linter.unusedVariables false
set_option linter.unusedSimpArgs false
set_option linter.unnecessarySimpa false
set_option maxRecDepth 100000
namespace Go.Proofs.YthonbfojpbfmgaaGreatDoor
open Go.RowKit

def zeroCk_S : List Value := [i64 0, i64 0, i64 0, nilS, i64 0, nilS, nilS, i64 0, nilS, .nilIface, nilS]
/-- where a look stands: the result's block a, the reader's gr, the chunk's g -/
structure St_S (W w0 w : World) (a gr g : Nat) (cs : List Value) (xs : List Nat) (s : Bool) : Prop where
  rowc : Row w g 94 cs
  rowa : Row w a 94 zeroCk_S
  rdr : RdrAt w0 w gr xs s
  bel : Below W.heap.size W w
  ha : W.heap.size ≤ a
  hr : W.heap.size ≤ gr
  hg : W.heap.size ≤ g
  h0 : w0.heap.size ≤ g
  n1 : g ≠ gr
  n2 : a ≠ g
  n3 : a ≠ gr
theorem St_S.store {W w0 w : World} {a gr g : Nat} {cs : List Value} {xs : List Nat} {s : Bool} (h : St_S W w0 w a gr g cs xs s) (f : Nat) (v : Value) : St_S W w0 (w.setCell ⟨g, f, none⟩ v) a gr g (cs.set f v) xs s := by
  have hch := (Chg.refl g g w).setCell g f v (.inl rfl)
  exact ⟨h.rowc.set f v, hch.row h.rowa h.n2 h.n2, h.rdr.chg hch (Ne.symm h.n1) (Ne.symm h.n1) h.h0 h.h0, below_set h.bel _ _ _ h.hg, h.ha, h.hr, h.hg, h.h0, h.n1, h.n2, h.n3⟩
theorem St_S.step {W w0 w w' : World} {a gr g : Nat} {cs : List Value} {xs ys : List Nat} {s t : Bool} (h : St_S W w0 w a gr g cs xs s) (hc : Chg gr gr w w') (hr : RdrAt w0 w' gr ys t) : St_S W w0 w' a gr g cs ys t :=
  ⟨hc.row h.rowc h.n1 h.n1, hc.row h.rowa h.n3 h.n3, hr, hc.below h.bel h.bel.size h.hr h.hr, h.ha, h.hr, h.hg, h.h0, h.n1, h.n2, h.n3⟩
theorem St_S.mono {W w0 w w' : World} {a gr g : Nat} {cs : List Value} {xs : List Nat} {s : Bool} (h : St_S W w0 w a gr g cs xs s) (hb : Below w.heap.size w w') : St_S W w0 w' a gr g cs xs s :=
  ⟨h.rowc.mono hb, h.rowa.mono hb, h.rdr.mono hb, h.bel.trans (hb.mono h.bel.size), h.ha, h.hr, h.hg, h.h0, h.n1, h.n2, h.n3⟩
theorem St_S.both {W w0 w w' : World} {a gr g : Nat} {cs ds : List Value} {xs ys : List Nat} {s t : Bool} (h : St_S W w0 w a gr g cs xs s) (hc : Chg g gr w w') (hd : Row w' g 94 ds) (hr : RdrAt w0 w' gr ys t) : St_S W w0 w' a gr g ds ys t :=
  ⟨hd, hc.row h.rowa h.n2 h.n3, hr, hc.below h.bel h.bel.size h.hg h.hr, h.ha, h.hr, h.hg, h.h0, h.n1, h.n2, h.n3⟩

theorem outPay_left_S (cd : Nat) (wd : Int) (k : Nat) (xs : List Nat) (s : Bool) : (outPay_S cd wd k xs s).left.length ≤ xs.length := by
  have h1 : ∀ n ys, (tkL n ys).length ≤ ys.length := tkL_le
  have hP : (outPlain_S wd k xs s).left.length ≤ xs.length := (rd_left_S k xs s).1
  have hD : (outDict_S wd k xs s).left.length ≤ xs.length := by
    unfold outDict_S
    split
    · exact h1 _ _
    · have hr := (rd_left_S (L.wordOf 8 (tk 4 xs)) (tkL 4 xs) (tkS 4 xs s)).1
      generalize rdS (L.wordOf 8 (tk 4 xs)) (tkL 4 xs) (tkS 4 xs s) = R at *
      obtain ⟨vals, ok, xl, s1⟩ := R
      simp only at *
      split
      · exact Nat.le_trans (h1 _ _) (Nat.le_trans hr (h1 _ _))
      · exact Nat.le_trans hr (h1 _ _)
  have hR : (outRuns_S wd k xs s).left.length ≤ xs.length := by
    unfold outRuns_S
    split
    · exact Nat.le_trans (h1 _ _) (h1 _ _)
    · have hr := (rd_left_S (L.wordOf 8 (tk 4 xs)) (tkL (4 * L.wordOf 8 (tk 4 xs)) (tkL 4 xs)) (tkS (4 * L.wordOf 8 (tk 4 xs)) (tkL 4 xs) (tkS 4 xs s))).1
      generalize rdS (L.wordOf 8 (tk 4 xs)) (tkL (4 * L.wordOf 8 (tk 4 xs)) (tkL 4 xs)) (tkS (4 * L.wordOf 8 (tk 4 xs)) (tkL 4 xs) (tkS 4 xs s)) = R at *
      obtain ⟨vals, ok, xl, s1⟩ := R
      exact Nat.le_trans hr (Nat.le_trans (h1 _ _) (h1 _ _))
  unfold outPay_S
  repeat' split
  all_goals first | exact hP | exact hD | exact hR | exact h1 _ _ | exact Nat.le_trans (h1 _ _) (h1 _ _)
/-- the eleven cells of a chunk's block -/
theorem row11_S {w : World} {a : Nat} {e : TypeId} {v0 v1 v2 v3 v4 v5 v6 v7 v8 v9 v10 : Value} (h : Row w a e [v0, v1, v2, v3, v4, v5, v6, v7, v8, v9, v10]) :
    w.cell? ⟨a, 0, none⟩ = some v0 ∧ w.cell? ⟨a, 1, none⟩ = some v1 ∧ w.cell? ⟨a, 2, none⟩ = some v2 ∧ w.cell? ⟨a, 3, none⟩ = some v3 ∧ w.cell? ⟨a, 4, none⟩ = some v4 ∧ w.cell? ⟨a, 5, none⟩ = some v5 ∧
    w.cell? ⟨a, 6, none⟩ = some v6 ∧ w.cell? ⟨a, 7, none⟩ = some v7 ∧ w.cell? ⟨a, 8, none⟩ = some v8 ∧ w.cell? ⟨a, 9, none⟩ = some v9 ∧ w.cell? ⟨a, 10, none⟩ = some v10 := by
  refine ⟨?_, ?_, ?_, ?_, ?_, ?_, ?_, ?_, ?_, ?_, ?_⟩ <;> (rw [h.cell]; rfl)
theorem frz11_S {w : World} {a : Nat} {e : TypeId} {cs : List Value} (h : Row w a e cs) :
    w.frozen? ⟨a, 0, none⟩ = false ∧ w.frozen? ⟨a, 1, none⟩ = false ∧ w.frozen? ⟨a, 2, none⟩ = false ∧ w.frozen? ⟨a, 3, none⟩ = false ∧ w.frozen? ⟨a, 4, none⟩ = false ∧ w.frozen? ⟨a, 5, none⟩ = false ∧
    w.frozen? ⟨a, 6, none⟩ = false ∧ w.frozen? ⟨a, 7, none⟩ = false ∧ w.frozen? ⟨a, 8, none⟩ = false ∧ w.frozen? ⟨a, 9, none⟩ = false ∧ w.frozen? ⟨a, 10, none⟩ = false :=
  ⟨h.frozen 0, h.frozen 1, h.frozen 2, h.frozen 3, h.frozen 4, h.frozen 5, h.frozen 6, h.frozen 7, h.frozen 8, h.frozen 9, h.frozen 10⟩

def knum_S : Int := 2
def cmax_S : Nat := 3
def lkBase_S (rows : Nat) (xs : List Nat) : Int := 0
def lkOut_S (rows : Nat) (xs : List Nat) : Out_S := outPay_S (headOf rows xs).codec (headOf rows xs).wd (cntOf rows (headOf rows xs).nulls) (headOf rows xs).left (headOf rows xs).short
def lkOk_S (rows : Nat) (xs : List Nat) : Bool := headOk knum_S rows (headOf rows xs) && ((lkOut_S rows xs).b && (!(lkOut_S rows xs).short && decide ((lkOut_S rows xs).left = [])))

set_option maxHeartbeats 16000000 in
theorem Look_S (w : World) (v : Value) (xs : List Nat) (rows : Nat) (hT : Tab w) (hv : Rd w v xs.length 1 (u8s xs)) (hb : ∀ x ∈ xs, x < 256) (hl : xs.length ≤ 16777216) (hrr : rows ≤ 65536) :
    Calls Tryz.prog 49 #[.iface 66 (.agg #[]), .int .i64 rows, v] w fun e w' => Below w.heap.size w w' ∧
      ((lkOk_S rows xs = false ∧ e = .returned (.tuple #[.agg zeroCk_S.toArray, .bool false])) ∨
       (lkOk_S rows xs = true ∧ ∃ nu lv ev nv bef, e = .returned (.tuple #[.agg (ck_S rows (headOf rows xs).codec (headOf rows xs).wd nu (cntOf rows (headOf rows xs).nulls) lv ev (lkBase_S rows xs) nv kind_S bef).toArray, .bool true]) ∧
          w'.ownsRow w.heap.size 40 1 nu (headOf rows xs).nulls.length (u64s (headOf rows xs).nulls) ∧ Rd w' lv (lkOut_S rows xs).list.length 1 (lstS (lkOut_S rows xs).list) ∧ Rd w' ev (lkOut_S rows xs).ends.length 1 (nIs (lkOut_S rows xs).ends) ∧
          Rd w' nv (lkOut_S rows xs).lanes.length 1 (u64s (lkOut_S rows xs).lanes) ∧ Rd w' bef (headOf rows xs).nulls.length 1 (i64s (befL (headOf rows xs).nulls)))) := by
  have HT := hid hT
  have HTL := hid hT.lt
  have HV := hid hv
  obtain ⟨A0, c0, rfl, _, _, _⟩ := hv.form
  clear hT hv
  obtain ⟨OK, hOK⟩ : ∃ OK, lkOk_S rows xs = OK := ⟨_, rfl⟩
  rw [hOK]
  have HOK := hid hOK
  unfold lkOk_S headOk lkOut_S at HOK
  obtain ⟨H, hH⟩ : ∃ H, headOf rows xs = H := ⟨_, rfl⟩
  have HH := hid hH
  rw [hH] at HOK ⊢
  obtain ⟨O, hO⟩ : ∃ O, lkOut_S rows xs = O := ⟨_, rfl⟩
  have HO := hid hO
  unfold lkOut_S at HO
  rw [hH] at HO
  rw [HO.out] at HOK
  rw [hO]
  obtain ⟨bs, hbs⟩ : ∃ bs, lkBase_S rows xs = bs := ⟨_, rfl⟩
  have HBS := hid hbs
  unfold lkBase_S at HBS
  rw [hbs]
  clear hOK hH hO hbs
  obtain ⟨cd, wd, nulls, x3, t3⟩ := H
  simp only at *
  have hcd : L.wordOf 8 (tk 1 xs) = cd := by have := HH.out; simp only [headOf, Head.mk.injEq] at this; exact this.1
  have hwd : L.wordOf 8 (tk 1 (tkL 1 xs)) = wd := by have := HH.out; simp only [headOf, Head.mk.injEq] at this; exact this.2.1
  have hnu : numL 8 (tk (8 * ((rows + 63) / 64)) (tkL 1 (tkL 1 xs))) = nulls := by have := HH.out; simp only [headOf, Head.mk.injEq] at this; exact this.2.2.1
  have hx3 : tkL (8 * ((rows + 63) / 64)) (tkL 1 (tkL 1 xs)) = x3 := by have := HH.out; simp only [headOf, Head.mk.injEq] at this; exact this.2.2.2.1
  have ht3 : tkS (8 * ((rows + 63) / 64)) (tkL 1 (tkL 1 xs)) (tkS 1 (tkL 1 xs) (tkS 1 xs false)) = t3 := by have := HH.out; simp only [headOf, Head.mk.injEq] at this; exact this.2.2.2.2
  obtain ⟨x1, hx1⟩ : ∃ x1, tkL 1 xs = x1 := ⟨_, rfl⟩
  obtain ⟨t1, ht1⟩ : ∃ t1, tkS 1 xs false = t1 := ⟨_, rfl⟩
  rw [hx1] at hwd hnu hx3 ht3
  rw [ht1] at ht3
  obtain ⟨x2, hx2⟩ : ∃ x2, tkL 1 x1 = x2 := ⟨_, rfl⟩
  obtain ⟨t2, ht2⟩ : ∃ t2, tkS 1 x1 t1 = t2 := ⟨_, rfl⟩
  rw [hx2] at hnu hx3 ht3
  rw [ht2] at ht3
  obtain ⟨m, hm⟩ : ∃ m, (rows + 63) / 64 = m := ⟨_, rfl⟩
  rw [hm] at hnu hx3 ht3
  have hm' : ((rows : Int) + 63) / 64 = (m : Int) := by omega
  have hl1 : x1.length ≤ 16777216 := by rw [← hx1]; exact Nat.le_trans (tkL_le _ _) hl
  have hb1 : ∀ x ∈ x1, x < 256 := by rw [← hx1]; exact tkL_lt hb
  have hl2 : x2.length ≤ 16777216 := by rw [← hx2]; exact Nat.le_trans (tkL_le _ _) hl1
  have hb2 : ∀ x ∈ x2, x < 256 := by rw [← hx2]; exact tkL_lt hb1
  have hl3 : x3.length ≤ 16777216 := by rw [← hx3]; exact Nat.le_trans (tkL_le _ _) hl2
  have hb3 : ∀ x ∈ x3, x < 256 := by rw [← hx3]; exact tkL_lt hb2
  have hnv : ∀ x ∈ nulls, x < 18446744073709551616 := by rw [← hnu]; exact numL_lt (tk_lt hb2) (by omega)
  have hnl : nulls.length ≤ 2097152 := by
    rw [← hnu, numL_length]; unfold tk; split
    · rw [List.length_take]; omega
    · simp
  have HBY1 := hid (fun (w0 w : World) (g : Nat) (h : RdrAt w0 w g xs false) => Byte_any w0 w g xs false h hb hl)
  rw [hcd, hx1, ht1] at HBY1
  have HBY2 := hid (fun (w0 w : World) (g : Nat) (h : RdrAt w0 w g x1 t1) => Byte_any w0 w g x1 t1 h hb1 hl1)
  rw [hwd, hx2, ht2] at HBY2
  have HU := hid (fun (w0 w : World) (g : Nat) (h : RdrAt w0 w g x2 t2) (hg : g < w.heap.size) => U64s_any w0 w g x2 t2 m h hg hb2 hl2 (by omega))
  rw [hnu, hx3, ht3] at HU
  have HRK := hid (fun (w : World) (v : Value) (h : Rd w v nulls.length 1 (u64s nulls)) => Rank_any v nulls rows rows w h hnv (by unfold maxLen; omega))
  obtain ⟨rk, hrk⟩ : ∃ rk, rankR rows rows nulls = rk := ⟨_, rfl⟩
  rw [hrk] at HRK
  have HRKE := hid hrk
  obtain ⟨k, hk⟩ : ∃ k, cntOf rows nulls = k := ⟨_, rfl⟩
  rw [hk] at HO ⊢
  have HK := hid hk
  clear hcd hwd hnu hx3 ht3 hx1 ht1 hx2 ht2 hm hrk HH hk
  go_enter Tryz.func49, Tryz.ntmps49
  go_wp2_with fail
  have hbA : Below w.heap.size w (w.alloc (.cells zeroCk_S.toArray 94)) := (brefl w).alloc (Nat.le_refl _) _
  have hrA : Row (w.alloc (.cells zeroCk_S.toArray 94)) w.heap.size 94 zeroCk_S := by unfold Row; rw [heap_alloc_new]
  have hsA : (w.alloc (.cells zeroCk_S.toArray 94)).heap.size = w.heap.size + 1 := by simp
  change Calls _ _ _ (w.alloc (.cells zeroCk_S.toArray 94)) _
  generalize w.alloc (.cells zeroCk_S.toArray 94) = w1 at *
  have HV1 := hid (HV.out.mono hbA)
  refine (NewReader_any w1 _ xs HV1.out).mono ?_
  rintro e w2 ⟨rfl, hat, hb2, hsz2⟩
  have HAT := hid hat
  have HBA := hid hbA; have HRA := hid hrA
  have HB2 := hid hb2
  clear hat hbA hrA hb2
  go_wp2_with fail
  have hbC : Below w2.heap.size w2 (w2.alloc (.cells (ck_S rows 0 0 nilS 0 nilS nilS 0 nilS kind_S nilS).toArray 94)) := (brefl w2).alloc (Nat.le_refl _) _
  have hrC : Row (w2.alloc (.cells (ck_S rows 0 0 nilS 0 nilS nilS 0 nilS kind_S nilS).toArray 94)) w2.heap.size 94 (ck_S rows 0 0 nilS 0 nilS nilS 0 nilS kind_S nilS) := by unfold Row; rw [heap_alloc_new]
  change Calls _ _ _ (w2.alloc (.cells (ck_S rows 0 0 nilS 0 nilS nilS 0 nilS kind_S nilS).toArray 94)) _
  generalize w2.alloc (.cells (ck_S rows 0 0 nilS 0 nilS nilS 0 nilS kind_S nilS).toArray 94) = w3 at *
  have HS3 : Hid (St_S w w1 w3 w.heap.size (w.heap.size + 1) (w.heap.size + 1 + 1) (ck_S rows 0 0 nilS 0 nilS nilS 0 nilS kind_S nilS) xs false) := by
    refine hid ⟨?_, (HRA.out.mono HB2.out).mono hbC, ?_, HBA.out.trans ((bthen HB2.out hbC).mono (by omega)), by omega, by omega, by omega, by omega, by omega, by omega, by omega⟩
    · have : w2.heap.size = w.heap.size + 1 + 1 := by omega
      rw [this] at hrC; exact hrC
    · have h1 := HAT.out.mono hbC
      rw [hsA] at h1; exact h1
  have HT1 := hid (HT.out.mono HBA.out HTL.out)
  clear hbC hrC HAT HBA HRA HB2 HV1 HV HT
  obtain ⟨g, hg⟩ : ∃ g, w.heap.size + 1 + 1 = g := ⟨_, rfl⟩
  rw [hg] at HS3 ⊢
  obtain ⟨gr, hgr⟩ : ∃ gr, w.heap.size + 1 = gr := ⟨_, rfl⟩
  rw [hgr] at HS3 ⊢
  obtain ⟨a, ha⟩ : ∃ a, w.heap.size = a := ⟨_, rfl⟩
  have HA := hid ha
  have HS3' : Hid (St_S w w1 w3 a gr g (ck_S rows 0 0 nilS 0 nilS nilS 0 nilS kind_S nilS) xs false) := hid (by rw [← HA.out]; exact HS3.out)
  rw [ha]
  clear HS3 hg hgr ha hsz2 hsA
  refine (HBY1.out w1 w3 gr HS3'.out.rdr).mono ?_
  rintro e w4 ⟨rfl, hr4, hc4⟩
  have HS4 := hid (HS3'.out.step hc4 hr4)
  have e1 : w4.cell? ⟨g, 0 + 1, none⟩ = some (.int .i64 0) := by rw [HS4.out.rowc.cell]; rfl
  have f1 := HS4.out.rowc.frozen (0 + 1)
  clear hr4 hc4 HS3'
  have HS5 := hid (HS4.out.store 1 (.int .i64 cd))
  go_wp2_with fail
  clear e1 f1 HS4
  generalize w4.setCell ⟨g, 1, none⟩ (.int .i64 cd) = w5 at *
  refine (HBY2.out w1 w5 gr HS5.out.rdr).mono ?_
  rintro e w6 ⟨rfl, hr6, hc6⟩
  have HS6 := hid (HS5.out.step hc6 hr6)
  have e1 : w6.cell? ⟨g, 0 + 2, none⟩ = some (.int .i64 0) := by rw [HS6.out.rowc.cell]; rfl
  have f1 := HS6.out.rowc.frozen (0 + 2)
  clear hr6 hc6 HS5
  have HS7 := hid (HS6.out.store 2 (.int .i64 wd))
  go_wp2_with fail
  clear e1 f1 HS6
  generalize w6.setCell ⟨g, 2, none⟩ (.int .i64 wd) = w7 at *
  have hgr7 := HS7.out.rdr.lt
  have hg7 := HS7.out.rowc.lt
  have ha7 := HS7.out.rowa.lt
  refine (HU.out w1 w7 gr HS7.out.rdr hgr7).mono ?_
  rintro e w8 ⟨p, hp, rfl, hrow8, hr8, hc8⟩
  have HS8 := hid (HS7.out.step hc8 hr8)
  have e1 : w8.cell? ⟨g, 0 + 3, none⟩ = some nilS := by rw [HS8.out.rowc.cell]; rfl
  have f1 := HS8.out.rowc.frozen (0 + 3)
  have hpg : p ≠ g := by omega
  have hpgr : p ≠ gr := by omega
  have hpW : w.heap.size ≤ p := by have := HS7.out.ha; omega
  have hpa : p ≠ a := by omega
  have HR8 := hid (((Chg.refl g g w8).setCell g 3 (.slice (some ⟨p, 0, none⟩) nulls.length nulls.length) (.inl rfl)).row hrow8 hpg hpg)
  clear hrow8 hr8 hc8 HS7 hp hg7 ha7 hgr7
  have HS9 : Hid (St_S w w1 (w8.setCell ⟨g, 3, none⟩ (.slice (some ⟨p, 0, none⟩) nulls.length nulls.length)) a gr g (ck_S rows cd wd (.slice (some ⟨p, 0, none⟩) nulls.length nulls.length) 0 nilS nilS 0 nilS kind_S nilS) x3 t3) := hid (HS8.out.store 3 (.slice (some ⟨p, 0, none⟩) nulls.length nulls.length))
  go_upto_region 6 with fail
  clear e1 f1 HS8 HU HBY1 HBY2
  generalize w8.setCell ⟨g, 3, none⟩ (.slice (some ⟨p, 0, none⟩) nulls.length nulls.length) = w9 at *
  have e3 : w9.cell? ⟨g, 0 + 3, none⟩ = some (.slice (some ⟨p, 0, none⟩) nulls.length nulls.length) := by rw [HS9.out.rowc.cell]; rfl
  go_wp2_with fail
  refine (HRK.out w9 _ (HR8.out.rd' (n := nulls.length) (by simp [u64s]) (by unfold maxLen; omega))).mono ?_
  rintro e wA ⟨rfl, nA, rfl⟩
  have HSA := hid (HS9.out.mono (bdrew (brefl w9) nA))
  have HRA := hid (HR8.out.drewN nA)
  go_upto_region 7 with fail
  clear e3 HS9 HR8 HRK
  generalize w9.drewN nA = wA at *
  have hAC : wA.cell? ⟨g, 1, none⟩ = some (.int .i64 cd) := by rw [HSA.out.rowc.cell]; rfl
  cases hok : okPack 1 rows nulls with
  | false =>
    obtain rfl : rk = -1 := by rw [← HRKE.out, rankR, if_neg (by rw [hok]; simp)]
    obtain rfl : OK = false := by rw [← HOK.out, hok]; rfl
    go_quiet (fail)
    have HSB := hid (HSA.out.mono (bdrew (brefl wA) nq))
    generalize wA.drewN nq = wB at *
    obtain ⟨z0, z1, z2, z3, z4, z5, z6, z7, z8, z9, z10⟩ := row11_S HSB.out.rowa
    obtain ⟨f0, f1, f2, f3, f4, f5, f6, f7, f8, f9, f10⟩ := frz11_S HSB.out.rowa
    go_wp2_with fail
    clear z0 z1 z2 z3 z4 z5 z6 z7 z8 z9 z10 f0 f1 f2 f3 f4 f5 f6 f7 f8 f9 f10
    change bodyPost _ _ _ _ _ (setL wB a 0 zeroCk_S)
    have HRF := hid (row_setL0 HSB.out.rowa zeroCk_S rfl)
    have HBF := hid (below_setL a HSB.out.ha zeroCk_S wB 0 HSB.out.bel)
    generalize setL wB a 0 zeroCk_S = wF at *
    obtain ⟨z0, z1, z2, z3, z4, z5, z6, z7, z8, z9, z10⟩ := row11_S HRF.out
    refine bodyPost_ret (v := .tuple #[.agg zeroCk_S.toArray, .bool false]) ?_ rfl ⟨HBF.out, by first | exact .inl ⟨rfl, rfl⟩ | rfl⟩
    simp [results, Tryz.results49, go_sem, z0, z1, z2, z3, z4, z5, z6, z7, z8, z9, z10]
    rfl
  | true =>
    have hrn : rk = ((rankN nulls rows : Nat) : Int) := by rw [← HRKE.out, rankR, if_pos ⟨hok, by omega, by omega⟩]; simp
    have hnr : rankN nulls rows ≤ rows := by unfold rankN; have := List.length_filter_le (bitOf nulls) (List.range rows); rwa [List.length_range] at this
    have hct : k = rows - rankN nulls rows := HK.out.symm
    obtain ⟨n, hn⟩ : ∃ n, rankN nulls rows = n := ⟨_, rfl⟩
    rw [hn] at hrn hnr hct
    subst hrn
    have hok2 := HOK.out
    rw [hok, Bool.true_and] at hok2
    have HOK2 := hid hok2
    have hneg : ¬ ((n : Int) < 0) := by omega
    have hkc : (rows : Int) - (n : Int) = (k : Int) := by omega
    have hkk : k ≤ 65536 := by omega
    have hmn := m_Number_S
    have hnl2 : nulls.length ≤ 65536 := by rw [((okPack_nat (wd := 1) (n := rows) nulls (by decide) hrr).1 hok).1]; exact Nat.le_trans (L.nWords_le (by omega)) hrr
    have hgA : g < wA.heap.size := HSA.out.rowc.lt
    clear hok2 hok HRKE hn hct
    generalize hic : isCodec knum_S cd = ic at *
    have HIC := hid (fun w2 : World => IsCodec_any knum_S cd w2)
    rw [hic] at HIC
    have HICE := hid hic
    clear hic
    unfold knum_S at HIC
    go_region_held3 (fun w' => w'.cell? ⟨g, 1, none⟩ = some (.int .i64 cd)) (go_keep)
      (first
        | (go_at_call 266; refine (StrsNumber_any _).mono ?_; rintro e wN ⟨rfl, hbN⟩; have HSN := hid (HSA.out.mono ((bdrew (brefl wA) 1).trans hbN)); have HRN := hid (HRA.out.mono ((bdrew (brefl wA) 1).trans hbN)); have kN := (hbN.cell (p := ⟨g, 1, none⟩) hgA).trans hAC; clear hbN)
        | (go_at_call 74; refine (HIC.out _).mono ?_; rintro e wM ⟨rfl, hw⟩; replace hw := hw.symm; subst hw))
    clear hAC HSA HRA hmn HIC hneg
    cases ic with
    | false =>
      obtain rfl : OK = false := by rw [← HOK2.out]; rfl
      obtain ⟨z0, z1, z2, z3, z4, z5, z6, z7, z8, z9, z10⟩ := row11_S HSN.out.rowa
      obtain ⟨f0, f1, f2, f3, f4, f5, f6, f7, f8, f9, f10⟩ := frz11_S HSN.out.rowa
      go_wp2_with fail
      clear z0 z1 z2 z3 z4 z5 z6 z7 z8 z9 z10 f0 f1 f2 f3 f4 f5 f6 f7 f8 f9 f10
      change bodyPost _ _ _ _ _ (setL wN a 0 zeroCk_S)
      have HRF := hid (row_setL0 HSN.out.rowa zeroCk_S rfl)
      have HBF := hid (below_setL a HSN.out.ha zeroCk_S wN 0 HSN.out.bel)
      generalize setL wN a 0 zeroCk_S = wF at *
      obtain ⟨z0, z1, z2, z3, z4, z5, z6, z7, z8, z9, z10⟩ := row11_S HRF.out
      refine bodyPost_ret (v := .tuple #[.agg zeroCk_S.toArray, .bool false]) ?_ rfl ⟨HBF.out, by first | exact .inl ⟨rfl, rfl⟩ | rfl⟩
      simp [results, Tryz.results49, go_sem, z0, z1, z2, z3, z4, z5, z6, z7, z8, z9, z10]
      rfl
    | true =>
      have hok3 := HOK2.out
      rw [Bool.true_and] at hok3
      have HOK3 := hid hok3
      clear hok3 HOK2
      have hcdk : 1 ≤ cd ∧ cd ≤ cmax_S := by
        have h := HICE.out
        unfold isCodec knum_S cmax_S at *
        split at h
        · omega
        · simp only [decide_eq_true_eq] at h; omega
      have e4 : wN.cell? ⟨g, 0 + 4, none⟩ = some (.int .i64 0) := by rw [HSN.out.rowc.cell]; rfl
      have f4 := HSN.out.rowc.frozen (0 + 4)
      have HSP := hid (HSN.out.store 4 (.int .i64 k))
      have HRP := hid (((Chg.refl g g wN).setCell g 4 (.int .i64 k) (.inl rfl)).row HRN.out hpg hpg)
      clear HSN HRN kN HICE
      go_upto_region 10 with fail
      clear e4 f4
      generalize wN.setCell ⟨g, 4, none⟩ (.int .i64 k) = wP at *
      have e3 : wP.cell? ⟨g, 0 + 3, none⟩ = some (.slice (some ⟨p, 0, none⟩) nulls.length nulls.length) := by rw [HSP.out.rowc.cell]; rfl
      go_wp2_with fail
      refine (countBefore_any _ nulls wP (HRP.out.rd' (n := nulls.length) (by simp [u64s]) (by unfold maxLen; omega)) hnv hnl2).mono ?_
      rintro e wQ ⟨rfl, hrowB, hbQ⟩
      have hq1 : g < wP.heap.size := HSP.out.rowc.lt
      have hq2 : gr < wP.heap.size := HSP.out.rdr.lt
      have hq3 : a < wP.heap.size := HSP.out.rowa.lt
      have hq4 : w.heap.size ≤ wP.heap.size := HSP.out.bel.size
      have HSQ := hid (HSP.out.mono hbQ)
      have HRQ := hid (HRP.out.mono hbQ)
      have HBQ := hid hrowB
      obtain ⟨q, hq⟩ : ∃ q, wP.heap.size = q := ⟨_, rfl⟩
      rw [hq] at HBQ hq1 hq2 hq3 hq4 ⊢
      have hqg : q ≠ g := by omega
      have hqr : q ≠ gr := by omega
      have hqa : q ≠ a := by omega
      have e10 : wQ.cell? ⟨g, 0 + 10, none⟩ = some nilS := by rw [HSQ.out.rowc.cell]; rfl
      have f10 := HSQ.out.rowc.frozen (0 + 10)
      have HSR : Hid (St_S w w1 (wQ.setCell ⟨g, 10, none⟩ (.slice (some ⟨q, 0, none⟩) nulls.length nulls.length)) a gr g (ck_S rows cd wd (.slice (some ⟨p, 0, none⟩) nulls.length nulls.length) k nilS nilS 0 nilS kind_S (.slice (some ⟨q, 0, none⟩) nulls.length nulls.length)) x3 t3) := hid (HSQ.out.store 10 (.slice (some ⟨q, 0, none⟩) nulls.length nulls.length))
      have HRR := hid (((Chg.refl g g wQ).setCell g 10 (.slice (some ⟨q, 0, none⟩) nulls.length nulls.length) (.inl rfl)).row HRQ.out hpg hpg)
      have HBR := hid (((Chg.refl g g wQ).setCell g 10 (.slice (some ⟨q, 0, none⟩) nulls.length nulls.length) (.inl rfl)).row HBQ.out hqg hqg)
      clear hrowB hbQ HSP HRP HSQ HRQ HBQ hq e3
      go_upto_region 11 with fail
      clear e10 f10
      generalize wQ.setCell ⟨g, 10, none⟩ (.slice (some ⟨q, 0, none⟩) nulls.length nulls.length) = wR at *
      have HPAY := hid (readPayload_S w1 wR g gr x3 t3 rows wd cd k _ _ HT1.out HSR.out.rowc HSR.out.rdr HSR.out.n1 HSR.out.h0 HSR.out.rdr.lt hb3 hl3 hkk hcdk)
      rw [HO.out] at HPAY
      have hr1 : a < wR.heap.size := HSR.out.rowa.lt
      have hr2 : g < wR.heap.size := HSR.out.rowc.lt
      go_wp2_with fail
      refine HPAY.out.mono ?_
      rintro e wS ⟨rfl, hOA⟩
      obtain ⟨⟨lv, ev, nv, hck, hol, hoe, hon⟩, hrS, hcS⟩ := hOA
      rw [HBS.out] at hck
      have HSS := hid (HSR.out.both hcS hck hrS)
      have HRS := hid (hcS.row HRR.out hpg hpgr)
      have HBS2 := hid (hcS.row HBR.out hqg hqr)
      have HOL := hid hol; have HOE := hid hoe; have HON := hid hon
      have hOl : O.left.length ≤ 16777216 := by rw [← HO.out]; exact Nat.le_trans (outPay_left_S cd wd k x3 t3) hl3
      clear hck hol hoe hon hrS hcS HSR HRR HBR HPAY HO
      obtain ⟨ob, ol, os, oli, oen, ola⟩ := O
      simp only at *
      cases ob with
      | false =>
        obtain rfl : OK = false := by rw [← HOK3.out]; rfl
        obtain ⟨z0, z1, z2, z3, z4, z5, z6, z7, z8, z9, z10⟩ := row11_S HSS.out.rowa
        obtain ⟨f0, f1, f2, f3, f4, f5, f6, f7, f8, f9, f10⟩ := frz11_S HSS.out.rowa
        go_wp2_with fail
        clear z0 z1 z2 z3 z4 z5 z6 z7 z8 z9 z10 f0 f1 f2 f3 f4 f5 f6 f7 f8 f9 f10
        change bodyPost _ _ _ _ _ (setL wS a 0 zeroCk_S)
        have HRF := hid (row_setL0 HSS.out.rowa zeroCk_S rfl)
        have HBF := hid (below_setL a HSS.out.ha zeroCk_S wS 0 HSS.out.bel)
        generalize setL wS a 0 zeroCk_S = wF at *
        obtain ⟨z0, z1, z2, z3, z4, z5, z6, z7, z8, z9, z10⟩ := row11_S HRF.out
        refine bodyPost_ret (v := .tuple #[.agg zeroCk_S.toArray, .bool false]) ?_ rfl ⟨HBF.out, by first | exact .inl ⟨rfl, rfl⟩ | rfl⟩
        simp [results, Tryz.results49, go_sem, z0, z1, z2, z3, z4, z5, z6, z7, z8, z9, z10]
        rfl
      | true =>
        cases os with
        | true =>
          obtain rfl : OK = false := by rw [← HOK3.out]; rfl
          obtain ⟨z0, z1, z2, z3, z4, z5, z6, z7, z8, z9, z10⟩ := row11_S HSS.out.rowa
          obtain ⟨f0, f1, f2, f3, f4, f5, f6, f7, f8, f9, f10⟩ := frz11_S HSS.out.rowa
          go_wp2_with (go_at_call 83; refine (Short_any w1 _ gr _ true HSS.out.rdr).mono ?_; rintro e wT ⟨rfl, hw⟩; replace hw := hw.symm; subst hw)
          clear z0 z1 z2 z3 z4 z5 z6 z7 z8 z9 z10 f0 f1 f2 f3 f4 f5 f6 f7 f8 f9 f10
          change bodyPost _ _ _ _ _ (setL wS a 0 zeroCk_S)
          have HRF := hid (row_setL0 HSS.out.rowa zeroCk_S rfl)
          have HBF := hid (below_setL a HSS.out.ha zeroCk_S wS 0 HSS.out.bel)
          generalize setL wS a 0 zeroCk_S = wF at *
          obtain ⟨z0, z1, z2, z3, z4, z5, z6, z7, z8, z9, z10⟩ := row11_S HRF.out
          refine bodyPost_ret (v := .tuple #[.agg zeroCk_S.toArray, .bool false]) ?_ rfl ⟨HBF.out, by first | exact .inl ⟨rfl, rfl⟩ | rfl⟩
          simp [results, Tryz.results49, go_sem, z0, z1, z2, z3, z4, z5, z6, z7, z8, z9, z10]
          rfl
        | false =>
          by_cases hle : ol = []
          case neg =>
            obtain rfl : OK = false := by rw [← HOK3.out]; simp [hle]
            have hlp : 0 < ol.length := List.length_pos_iff.2 hle
            have hgt : (ol.length : Int) > 0 := by omega
            clear hle
            obtain ⟨z0, z1, z2, z3, z4, z5, z6, z7, z8, z9, z10⟩ := row11_S HSS.out.rowa
            obtain ⟨f0, f1, f2, f3, f4, f5, f6, f7, f8, f9, f10⟩ := frz11_S HSS.out.rowa
            go_wp2_with (first | (go_at_call 83; refine (Short_any w1 _ gr _ false HSS.out.rdr).mono ?_; rintro e wT ⟨rfl, hw⟩; replace hw := hw.symm; subst hw) | (go_at_call 84; refine (Left_any w1 _ gr ol false HSS.out.rdr hOl).mono ?_; rintro e wT ⟨rfl, hw⟩; replace hw := hw.symm; subst hw))
            clear z0 z1 z2 z3 z4 z5 z6 z7 z8 z9 z10 f0 f1 f2 f3 f4 f5 f6 f7 f8 f9 f10
            change bodyPost _ _ _ _ _ (setL wS a 0 zeroCk_S)
            have HRF := hid (row_setL0 HSS.out.rowa zeroCk_S rfl)
            have HBF := hid (below_setL a HSS.out.ha zeroCk_S wS 0 HSS.out.bel)
            generalize setL wS a 0 zeroCk_S = wF at *
            obtain ⟨z0, z1, z2, z3, z4, z5, z6, z7, z8, z9, z10⟩ := row11_S HRF.out
            refine bodyPost_ret (v := .tuple #[.agg zeroCk_S.toArray, .bool false]) ?_ rfl ⟨HBF.out, by first | exact .inl ⟨rfl, rfl⟩ | rfl⟩
            simp [results, Tryz.results49, go_sem, z0, z1, z2, z3, z4, z5, z6, z7, z8, z9, z10]
            rfl
          case pos =>
            subst hle
            obtain rfl : OK = true := by rw [← HOK3.out]; rfl
            have hgt : ¬ ((([] : List Nat).length : Int) > 0) := by simp
            obtain ⟨z0, z1, z2, z3, z4, z5, z6, z7, z8, z9, z10⟩ := row11_S HSS.out.rowa
            obtain ⟨f0, f1, f2, f3, f4, f5, f6, f7, f8, f9, f10⟩ := frz11_S HSS.out.rowa
            obtain ⟨Al, cl, rfl, _, _, _⟩ := owns_form HOL.out
            obtain ⟨Ae, ce, rfl, _, _, _⟩ := owns_form HOE.out
            obtain ⟨An, cn, rfl, _, _, _⟩ := owns_form HON.out
            obtain ⟨y0, y1, y2, y3, y4, y5, y6, y7, y8, y9, y10⟩ := row11_S HSS.out.rowc
            unfold i64 at y0 y1 y2 y4 y7
            unfold kind_S at y9
            go_wp2_with (first | (go_at_call 83; refine (Short_any w1 _ gr _ false HSS.out.rdr).mono ?_; rintro e wT ⟨rfl, hw⟩; replace hw := hw.symm; subst hw) | (go_at_call 84; refine (Left_any w1 _ gr [] false HSS.out.rdr hOl).mono ?_; rintro e wT ⟨rfl, hw⟩; replace hw := hw.symm; subst hw))
            clear z0 z1 z2 z3 z4 z5 z6 z7 z8 z9 z10 f0 f1 f2 f3 f4 f5 f6 f7 f8 f9 f10 y0 y1 y2 y3 y4 y5 y6 y7 y8 y9 y10
            change bodyPost _ _ _ _ _ (setL wS a 0 (ck_S rows cd wd (.slice (some ⟨p, 0, none⟩) nulls.length nulls.length) k (.slice Al oli.length cl) (.slice Ae oen.length ce) bs (.slice An ola.length cn) kind_S (.slice (some ⟨q, 0, none⟩) nulls.length nulls.length)))
            have HRF := hid (row_setL0 HSS.out.rowa (ck_S rows cd wd (.slice (some ⟨p, 0, none⟩) nulls.length nulls.length) k (.slice Al oli.length cl) (.slice Ae oen.length ce) bs (.slice An ola.length cn) kind_S (.slice (some ⟨q, 0, none⟩) nulls.length nulls.length)) rfl)
            have HBF := hid (below_setL a HSS.out.ha (ck_S rows cd wd (.slice (some ⟨p, 0, none⟩) nulls.length nulls.length) k (.slice Al oli.length cl) (.slice Ae oen.length ce) bs (.slice An ola.length cn) kind_S (.slice (some ⟨q, 0, none⟩) nulls.length nulls.length)) wS 0 HSS.out.bel)
            have hcf := chg_setL a (ck_S rows cd wd (.slice (some ⟨p, 0, none⟩) nulls.length nulls.length) k (.slice Al oli.length cl) (.slice Ae oen.length ce) bs (.slice An ola.length cn) kind_S (.slice (some ⟨q, 0, none⟩) nulls.length nulls.length)) wS 0
            have G1 := hid ((hcf.row HRS.out hpa hpa).owns (B := w.heap.size) (n := nulls.length) hpW (by simp [u64s]) (by unfold maxLen; omega))
            have G2 := hid ((hcf.row HBS2.out hqa hqa).rd' (n := nulls.length) (by simp [i64s, befL]) (by unfold maxLen; omega))
            have G3 := hid (owns_rd (owns_chg HOL.out hcf hr1 hr1))
            have G4 := hid (owns_rd (owns_chg HOE.out hcf hr1 hr1))
            have G5 := hid (owns_rd (owns_chg HON.out hcf hr1 hr1))
            clear hcf
            generalize setL wS a 0 (ck_S rows cd wd (.slice (some ⟨p, 0, none⟩) nulls.length nulls.length) k (.slice Al oli.length cl) (.slice Ae oen.length ce) bs (.slice An ola.length cn) kind_S (.slice (some ⟨q, 0, none⟩) nulls.length nulls.length)) = wF at *
            obtain ⟨z0, z1, z2, z3, z4, z5, z6, z7, z8, z9, z10⟩ := row11_S HRF.out
            refine bodyPost_ret (v := .tuple #[.agg (ck_S rows cd wd (.slice (some ⟨p, 0, none⟩) nulls.length nulls.length) k (.slice Al oli.length cl) (.slice Ae oen.length ce) bs (.slice An ola.length cn) kind_S (.slice (some ⟨q, 0, none⟩) nulls.length nulls.length)).toArray, .bool true]) ?_ rfl ⟨HBF.out, ?_⟩
            · simp [results, Tryz.results49, go_sem, z0, z1, z2, z3, z4, z5, z6, z7, z8, z9, z10]
              rfl
            · first | exact .inr ⟨rfl, _, _, _, _, _, rfl, G1.out, G3.out, G4.out, G5.out, G2.out⟩ | exact ⟨_, _, _, _, _, rfl, G1.out, G3.out, G4.out, G5.out, G2.out⟩
end Go.Proofs.YthonbfojpbfmgaaGreatDoor

/- Package codec: decode and gather of one kind. -/
set_option linter.unusedVariables false
set_option linter.unusedSimpArgs false
set_option linter.unnecessarySimpa false
set_option maxRecDepth 100000
namespace Go.Proofs.YthonbfojpbfmgaaGreatDoor
open Go.RowKit

/-- value number j of a body -/
def vAt_S (rows : Nat) (xs : List Nat) (j : Nat) : ByteArray := vl_S (headOf rows xs).codec (headOf rows xs).wd (lkOut_S rows xs).list (lkOut_S rows xs).ends (lkBase_S rows xs) (lkOut_S rows xs).lanes j
/-- the cell of a row, by its fields -/
def cellA_S (rows : Nat) (xs : List Nat) (r : Nat) : Bool := bitOf (headOf rows xs).nulls r
def cellB_S (rows : Nat) (xs : List Nat) (r : Nat) : Int := if bitOf (headOf rows xs).nulls r = true then 0 else cB_S (vAt_S rows xs (r - rankN (headOf rows xs).nulls (r + 1)))
def cellC_S (rows : Nat) (xs : List Nat) (r : Nat) : ByteArray := if bitOf (headOf rows xs).nulls r = true then ByteArray.empty else cC_S (vAt_S rows xs (r - rankN (headOf rows xs).nulls (r + 1)))
/-- what a body that is valid has -/
structure Valid_S (rows : Nat) (xs : List Nat) : Prop where
  nl : (headOf rows xs).nulls.length = (rows + 63) / 64
  nv : ∀ x ∈ (headOf rows xs).nulls, x < 18446744073709551616
  ll : (lkOut_S rows xs).list.length ≤ 16777216
  el : (lkOut_S rows xs).ends.length ≤ 16777216
  lv : ∀ x ∈ (lkOut_S rows xs).lanes, x < 18446744073709551616
  ok : ∀ j, j < cntOf rows (headOf rows xs).nulls → okv_S (headOf rows xs).codec (headOf rows xs).wd (lkOut_S rows xs).list (lkOut_S rows xs).ends (lkOut_S rows xs).lanes j

/-- a chunk laid in memory -/
theorem ck_laid_S {w : World} {rows : Nat} {xs : List Nat} {nu lv ev nv bef : Value} (h1 : Rd w nu (headOf rows xs).nulls.length 1 (u64s (headOf rows xs).nulls)) (h2 : Rd w lv (lkOut_S rows xs).list.length 1 (lstS (lkOut_S rows xs).list))
    (h3 : Rd w ev (lkOut_S rows xs).ends.length 1 (nIs (lkOut_S rows xs).ends)) (h4 : Rd w nv (lkOut_S rows xs).lanes.length 1 (u64s (lkOut_S rows xs).lanes)) (h5 : Rd w bef (headOf rows xs).nulls.length 1 (i64s (befL (headOf rows xs).nulls))) :
    Ck_S (w.alloc (.cells (ck_S rows (headOf rows xs).codec (headOf rows xs).wd nu (cntOf rows (headOf rows xs).nulls) lv ev (lkBase_S rows xs) nv kind_S bef).toArray 94)) w.heap.size rows (headOf rows xs).codec (headOf rows xs).wd (headOf rows xs).nulls
      (cntOf rows (headOf rows xs).nulls) (lkOut_S rows xs).list (lkOut_S rows xs).ends (lkBase_S rows xs) (lkOut_S rows xs).lanes := by
  have hb : Below w.heap.size w (w.alloc (.cells (ck_S rows (headOf rows xs).codec (headOf rows xs).wd nu (cntOf rows (headOf rows xs).nulls) lv ev (lkBase_S rows xs) nv kind_S bef).toArray 94)) := (brefl w).alloc (Nat.le_refl _) _
  exact ⟨⟨nu, lv, ev, nv, bef, by unfold Row; rw [heap_alloc_new]; rfl, h1.mono hb, h2.mono hb, h3.mono hb, h4.mono hb, h5.mono hb⟩⟩

end Go.Proofs.YthonbfojpbfmgaaGreatDoor

/- Package codec: Decode and Gather. -/
set_option linter.unusedVariables false
set_option linter.unusedSimpArgs false
set_option linter.unnecessarySimpa false
set_option maxRecDepth 100000
namespace Go.Proofs.YthonbfojpbfmgaaGreatDoor
open Go.RowKit

end Go.Proofs.YthonbfojpbfmgaaGreatDoor

/- The laws' own helpers over bytes and cells. -/
set_option linter.unusedVariables false
set_option linter.unusedSimpArgs false
set_option linter.unnecessarySimpa false
set_option maxRecDepth 100000
namespace Go.Proofs.YthonbfojpbfmgaaGreatDoor
open Go.RowKit

theorem Tryz.infoU8 : (Tryz.prog.info? 5).map (fun i => (i.zero, i.size, i.bytes)) = some (some (.int .u8 0), 1, 1) := by kernel_rfl
def tailB (m : Nat) : List Nat := (List.range m).map fun j => (131 + j) % 256
theorem tailB_succ (j : Nat) : tailB (j + 1) = tailB j ++ [(131 + j) % 256] := by simp [tailB, List.range_succ]
theorem tailB_length (m : Nat) : (tailB m).length = m := by simp [tailB]

set_option maxHeartbeats 1000000 in
theorem layBytes_any (v : Value) (xs : List Nat) (r : Int) (w : World) (hx : Rd w v xs.length 1 (u8s xs)) (hl : xs.length ≤ 17592186044416) :
    Calls Tryz.prog 7 #[v, .int .i64 r] w fun e w' =>
      e = .returned (.slice (some ⟨w.heap.size, 0, none⟩) (xs.length + clipN r) (xs.length + clipN r)) ∧ Row w' w.heap.size 5 (u8s (xs ++ tailB (clipN r))) ∧ Below w.heap.size w w' ∧ w'.heap.size = w.heap.size + 1 := by
  have hc := clipN_le r
  generalize hcr : clipN r = m at *
  have HC := hcr; clear hcr
  have HX : Hid (Rd w v xs.length 1 (u8s xs)) := hx
  obtain ⟨A, cap, rfl, _, _, _⟩ := hx.form
  clear hx
  go_enter Tryz.func7, Tryz.ntmps7
  go_wp2_with (go_at_call 26; refine (clip_any _ _).mono ?_; rintro e w' ⟨rfl, rfl⟩)
  refine upon_make 5 (.int .u8 0) 1 Tryz.underlying22 Tryz.infoU8 rfl (xs.length + m) (by omega) (by omega) (by omega) (by unfold maxLen; omega) ?_
  intro w1 hrow hb1 hsz1
  have HZ : Hid (w1.heap.size = w'.heap.size + 1) := hsz1
  clear hsz1
  go_wp2
  refine upon_copy 5 Tryz.underlying22 (by kernel_rfl) hrow (HX.out.mono hb1) (oneCell_u8s xs) (by simp) ?_
  rw [Nat.min_eq_left (by omega)]
  intro w2 hrow2 _ hb2 hsz2
  rw [show List.take xs.length (u8s xs) = u8s xs from by rw [← u8s_length xs, List.take_length]] at hrow2
  have hb3 : Below w'.heap.size w' w2 := hb1.trans hb2
  have HZ2 : Hid (w2.heap.size = w'.heap.size + 1) := by rw [hsz2]; exact HZ.out
  clear hsz2 hb2 hrow hb1 HZ
  simp only [Nat.zero_add, List.take_zero, List.nil_append, List.drop_replicate, Nat.add_sub_cancel_left] at hrow2
  go_wp2
  go_loopw [6] (fun i wr => ∃ j : Nat, j ≤ m ∧ i = .int .i64 (xs.length + j : Nat) ∧ Row wr w'.heap.size 5 (u8s (xs ++ tailB j) ++ List.replicate (m - j) (.int .u8 0)) ∧ Below w'.heap.size w' wr ∧ Hid (wr.heap.size = w'.heap.size + 1))
      (fun i _ => xs.length + m - (intOf i).toNat)
  case atStart => exact ⟨0, by omega, rfl, by simpa [tailB] using hrow2, hb3, HZ2⟩
  case round =>
    obtain ⟨j, hj, rfl, hr, hb, hz⟩ := hrel
    clear hrow2 hb3 HZ2
    by_cases hlt : j < m
    · have hcell : wr.cell? ⟨w'.heap.size, xs.length + j, none⟩ = some (.int .u8 0) := by
        rw [hr.cell]; exact get_fill _ _ _ _ (by simp [u8s, tailB]) (by omega)
      have hfr := hr.frozen (xs.length + j)
      have HR := hid hr; clear hr
      go_wp2
      go_roundw
      case rel =>
        refine ⟨j + 1, by omega, by go_num, ?_, hb.setCell (Nat.le_refl _) _, ?_⟩
        · have hs := HR.out.set (xs.length + j) (.int .u8 (((131 + j) % 256 : Nat) : Int))
          rw [set_fill _ _ _ _ _ (by simp [u8s, tailB]) (by omega)] at hs
          rw [show ((131 : Int) + ((xs.length : Int) + (j : Int)) - (xs.length : Int)) % 256 = (((131 + j) % 256 : Nat) : Int) by omega, tailB_succ, ← List.append_assoc, u8s_append, ← Nat.sub_sub m j 1]
          exact hs
        · show _ = _; rw [← hz.out]; simp [World.setCell]
      case measure => simp [intOf]; omega
    · obtain rfl : j = m := by omega
      go_wp2
      go_ret
      exact ⟨rfl, by simpa using hr, hb, hz.out⟩

theorem sameBytes_same (x y : Value) (xs : List Nat) (w : World) (hx : Rd w x xs.length 1 (u8s xs)) (hy : Rd w y xs.length 1 (u8s xs)) :
    Calls Tryz.prog 12 #[x, y] w fun e w' => e = .returned (.bool true) ∧ w' = w := by
  have h1 := run_str hx
  have h2 := run_str hy
  generalize ofBytes xs = S at *
  clear hx hy
  go_enter Tryz.func12, Tryz.ntmps12
  go_wp2
  go_ret
  exact ⟨by simp, rfl⟩

theorem cellsUp_get (A : Nat → Bool) (B : Nat → Int) (C : Nat → ByteArray) (n : Nat) : ∀ k, k < n → (cellsUp A B C n)[k * 3]? = some (.bool (A k)) ∧ (cellsUp A B C n)[k * 3 + 1]? = some (.int .i64 (B k)) ∧ (cellsUp A B C n)[k * 3 + 2]? = some (.string (C k)) := by
  induction n with
  | zero => intro k hk; omega
  | succ n ih =>
    intro k hk
    have hl := cellsUp_length A B C n
    by_cases hkn : k < n
    · have := ih k hkn
      rw [cellsUp]
      rw [List.getElem?_append_left (by omega), List.getElem?_append_left (by omega), List.getElem?_append_left (by omega)]
      exact this
    · obtain rfl : k = n := by omega
      rw [cellsUp]
      rw [List.getElem?_append_right (by omega), List.getElem?_append_right (by omega), List.getElem?_append_right (by omega), hl]
      simp

end Go.Proofs.YthonbfojpbfmgaaGreatDoor

/- The plain answer: Gather. -/
set_option linter.unusedVariables false
set_option linter.unusedSimpArgs false
set_option linter.unnecessarySimpa false
set_option maxRecDepth 100000
namespace Go.Proofs.YthonbfojpbfmgaaGreatDoor
open Go.RowKit

theorem Rd.atI {w : World} {D : Option Addr} {n m cd : Nat} {xs : List Int} (h : Rd w (.slice D n cd) m 1 (i64s xs)) (h0 : 0 < m) : ∃ b o, D = some ⟨b, o, none⟩ ∧
    ∀ k, k < xs.length → w.cell? ⟨b, o + k, none⟩ = some (.int .i64 (xs.getD k 0)) := by
  rcases h.2 with ⟨_, rfl⟩ | ⟨b, o, cap', he, _, _, hs⟩
  · exact absurd h0 (Nat.lt_irrefl 0)
  · injection he with e1 e2 e3
    exact ⟨b, o, e1, fun k hk => hs.int k hk⟩
end Go.Proofs.YthonbfojpbfmgaaGreatDoor
