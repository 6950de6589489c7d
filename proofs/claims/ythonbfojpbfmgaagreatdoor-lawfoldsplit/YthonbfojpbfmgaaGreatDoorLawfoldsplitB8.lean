/- Package chunk: runs off the reader. -/
import Derived.Test.YthonbfojpbfmgaaGreatDoorLawfoldsplitB7
import Derived.Deep.RegionHeld3
import Derived.Deep.CutRange
set_option linter.unusedVariables false
set_option linter.unusedSimpArgs false
set_option linter.unnecessarySimpa false
set_option maxRecDepth 100000
namespace Go.Proofs.YthonbfojpbfmgaaGreatDoor
open Go.RowKit

def outRuns_I (wd : Int) (k : Nat) (xs : List Nat) (s : Bool) : Out_I :=
  if wd ≠ 0 ∨ runEnds (nI (numL 4 (tk (4 * L.wordOf 8 (tk 4 xs)) (tkL 4 xs)))) k = false then
    { b := false, left := tkL (4 * L.wordOf 8 (tk 4 xs)) (tkL 4 xs), short := tkS (4 * L.wordOf 8 (tk 4 xs)) (tkL 4 xs) (tkS 4 xs s), list := [], ends := numL 4 (tk (4 * L.wordOf 8 (tk 4 xs)) (tkL 4 xs)), lanes := [] }
  else match rdI (L.wordOf 8 (tk 4 xs)) (tkL (4 * L.wordOf 8 (tk 4 xs)) (tkL 4 xs)) (tkS (4 * L.wordOf 8 (tk 4 xs)) (tkL 4 xs) (tkS 4 xs s)) with
    | (vals, ok, xl, s3) => { b := ok && noPair eqI vals, left := xl, short := s3, list := vals, ends := numL 4 (tk (4 * L.wordOf 8 (tk 4 xs)) (tkL 4 xs)), lanes := [] }

set_option maxHeartbeats 8000000 in
theorem readRuns_I (w0 w : World) (g gr : Nat) (xs : List Nat) (s : Bool) (rows codec wd : Int) (k : Nat) (nulls bef : Value) (base : Int)
    (hc : Row w g 111 (ck_I rows codec wd nulls k nilS nilS base nilS kind_I bef)) (hr : RdrAt w0 w gr xs s) (hne : g ≠ gr) (hg0 : w0.heap.size ≤ g) (hgs : gr < w.heap.size)
    (hv : ∀ x ∈ xs, x < 256) (hl : xs.length ≤ 16777216) (hk : k ≤ 65536) :
    Calls Tryz.prog 158 #[.pointer (some ⟨g, 0, none⟩), .pointer (some ⟨gr, 0, none⟩)] w fun e w' =>
      e = .returned (.bool (outRuns_I wd k xs s).b) ∧ OutAt_I w0 w w' w.heap.size g gr rows codec wd k nulls kind_I bef base (outRuns_I wd k xs s) := by
  have hU := U32_any w0 w gr xs s hr hv hl
  have hd32 : L.wordOf 8 (tk 4 xs) < 4294967296 := wordOf4_lt _ (tk_lt hv) (tk_le 4 xs)
  obtain ⟨O, hO⟩ : ∃ O, outRuns_I wd k xs s = O := ⟨_, rfl⟩
  have HO := hid hO
  unfold outRuns_I at HO
  rw [hO]
  clear hO
  obtain ⟨d, hd⟩ : ∃ d, L.wordOf 8 (tk 4 xs) = d := ⟨_, rfl⟩
  obtain ⟨xs1, hx1⟩ : ∃ xs1, tkL 4 xs = xs1 := ⟨_, rfl⟩
  obtain ⟨s1, hs1⟩ : ∃ s1, tkS 4 xs s = s1 := ⟨_, rfl⟩
  have hxl1 : xs1.length ≤ 16777216 := by rw [← hx1]; exact Nat.le_trans (tkL_le _ _) hl
  have hxv1 : ∀ x ∈ xs1, x < 256 := by rw [← hx1]; exact tkL_lt hv
  rw [hd, hx1, hs1] at hU HO
  rw [hd] at hd32
  obtain ⟨es, hes⟩ : ∃ es, numL 4 (tk (4 * d) xs1) = es := ⟨_, rfl⟩
  obtain ⟨xs2, hx2⟩ : ∃ xs2, tkL (4 * d) xs1 = xs2 := ⟨_, rfl⟩
  obtain ⟨s2, hs2⟩ : ∃ s2, tkS (4 * d) xs1 s1 = s2 := ⟨_, rfl⟩
  have hxl2 : xs2.length ≤ 16777216 := by rw [← hx2]; exact Nat.le_trans (tkL_le _ _) hxl1
  have hxv2 : ∀ x ∈ xs2, x < 256 := by rw [← hx2]; exact tkL_lt hxv1
  have hel : es.length ≤ 16777216 := by
    rw [← hes, numL_length]; unfold tk; split
    · rw [List.length_take]; omega
    · simp
  rw [hes, hx2, hs2] at HO
  have HUS := hid (fun (w2 : World) (h2 : RdrAt w0 w2 gr xs1 s1) (hg2 : gr < w2.heap.size) => U32s_any w0 w2 gr xs1 s1 d h2 hg2 hxv1 hxl1 (by omega))
  rw [hes, hx2, hs2] at HUS
  have HU := hid hU
  have HC := hid hc
  have hgw : g < w.heap.size := hc.lt
  clear hU hc hr hd hx1 hs1 hes hx2 hs2 hv hl
  obtain ⟨B, hB⟩ : ∃ B, w.heap.size = B := ⟨_, rfl⟩
  have HB := hid hB
  rw [hB]
  clear hB
  have hm := m_readList_I
  have hgB : g < B := by have := HB.out; omega
  have hrB : gr < B := by have := HB.out; omega
  go_enter Tryz.func158, Tryz.ntmps158
  go_upto_region 2 with (first | (go_at_call 183; refine HU.out.mono ?_; rintro e w1 ⟨rfl, ha1, hc1⟩; have HA1 := hid ha1; have HC1 := hid (Chg.wide' (a := g) hc1); have HCK1 := hid (hc1.row HC.out hne hne); clear ha1 hc1))
  have hgr1 : gr < w1.heap.size := Nat.lt_of_lt_of_le hgs HC1.out.size
  have hB1 : B ≤ w1.heap.size := by have := HB.out; have := HC1.out.size; omega
  clear HU HC
  go_wp2_with fail
  refine (HUS.out w1 HA1.out hgr1).mono ?_
  rintro e w2 ⟨p, hp, rfl, hrow2, ha2, hc2⟩
  have hpB : B ≤ p := Nat.le_trans hB1 hp
  have hpg : p ≠ g := by omega
  have hpr : p ≠ gr := by omega
  have HCK2 := hid (hc2.row HCK1.out hne hne)
  have e6 : w2.cell? ⟨g, 0 + 6, none⟩ = some nilS := by rw [HCK2.out.cell]; rfl
  have f6 := HCK2.out.frozen (0 + 6)
  have hch := (Chg.refl g g w2).setCell g 6 (.slice (some ⟨p, 0, none⟩) es.length es.length) (.inl rfl)
  have HCK3 : Hid (Row (w2.setCell ⟨g, 6, none⟩ (.slice (some ⟨p, 0, none⟩) es.length es.length)) g 111 (ck_I rows codec wd nulls k nilS (.slice (some ⟨p, 0, none⟩) es.length es.length) base nilS kind_I bef)) := hid (HCK2.out.set 6 _)
  have HR3 := hid (hch.row hrow2 hpg hpg)
  have HA3 := hid (ha2.chg hch (Ne.symm hne) (Ne.symm hne) hg0 hg0)
  have HC3 := hid ((HC1.out.trans (Chg.wide' (a := g) hc2)).setCell g 6 (.slice (some ⟨p, 0, none⟩) es.length es.length) (.inl rfl))
  have hgr3 : gr < (w2.setCell ⟨g, 6, none⟩ (.slice (some ⟨p, 0, none⟩) es.length es.length)).heap.size := Nat.lt_of_lt_of_le hgs HC3.out.size
  have hB3 : B ≤ (w2.setCell ⟨g, 6, none⟩ (.slice (some ⟨p, 0, none⟩) es.length es.length)).heap.size := Nat.le_trans hB1 (Nat.le_trans hc2.size hch.size)
  clear hrow2 ha2 hc2 HA1 HC1 HCK1 HCK2 hch hgr1 hB1 HUS hp
  go_upto_region 3 with fail
  clear e6 f6
  generalize w2.setCell ⟨g, 6, none⟩ (.slice (some ⟨p, 0, none⟩) es.length es.length) = w3 at *
  have HOE := hid (HR3.out.owns (B := B) (n := es.length) hpB (by simp [i64s, nI]) (by unfold maxLen; omega))
  have HFAIL : Hid (∀ n, OutAt_I w0 w (w3.drewN n) B g gr rows codec wd k nulls kind_I bef base { b := false, left := xs2, short := s2, list := [], ends := es, lanes := [] }) := hid (fun n =>
    ⟨⟨_, _, _, HCK3.out.drewN n, World.ownsRow_nil _ _ _ _, owns_below HOE.out (bdrew (brefl w3) n), World.ownsRow_nil _ _ _ _⟩, HA3.out.mono (bdrew (brefl w3) n), HC3.out.drewN n⟩)
  have e2 : w3.cell? ⟨g, 2, none⟩ = some (.int .i64 wd) := by rw [HCK3.out.cell]; rfl
  have e4 : w3.cell? ⟨g, 4, none⟩ = some (.int .i64 k) := by rw [HCK3.out.cell]; rfl
  have e6 : w3.cell? ⟨g, 6, none⟩ = some (.slice (some ⟨p, 0, none⟩) es.length es.length) := by rw [HCK3.out.cell]; rfl
  have HEN := hid (fun nd : Nat => areRunEnds_any (.slice (some ⟨p, 0, none⟩) es.length es.length) (nI es) k (w3.drewN nd) (by rw [nI_length]; exact ((HR3.out.drewN nd).rd' (n := es.length) (by simp [i64s, nI]) (by unfold maxLen; omega))) (by rw [nI_length]; unfold maxLen; omega))
  obtain ⟨re, hre⟩ : ∃ re, runEnds (nI es) k = re := ⟨_, rfl⟩
  rw [hre] at HEN HO
  clear hre
  by_cases hw : wd = 0
  case neg =>
    have hO : O = { b := false, left := xs2, short := s2, list := [], ends := es, lanes := [] } := by rw [← HO.out, if_pos (.inl hw)]
    subst hO
    have hw1 : (wd != 0) = true := by rw [bne_iff_ne]; exact hw
    go_wp2_with fail
    go_quiet (fail)
    go_wp2_with fail
    go_ret
    exact ⟨rfl, HFAIL.out _⟩
  case pos =>
    have hw1 : (wd != 0) = false := by rw [hw]; rfl
    cases re
    case false =>
      have hO : O = { b := false, left := xs2, short := s2, list := [], ends := es, lanes := [] } := by rw [← HO.out, if_pos (.inr rfl)]
      subst hO
      clear hw
      go_wp2_with fail
      go_quiet (first | (go_at_call 188; refine Calls.quiet_of_same (HEN.out _)))
      go_wp2_with fail
      go_ret
      exact ⟨rfl, HFAIL.out _⟩
    case true =>
      have hO2 := HO.out
      rw [if_neg (fun h => h.elim (fun h => h hw) (fun h => by cases h))] at hO2
      obtain ⟨vals, ok, xl, s4, hR⟩ : ∃ vals ok xl s4, rdI d xs2 s2 = (vals, ok, xl, s4) := ⟨_, _, _, _, rfl⟩
      rw [hR] at hO2
      simp only at hO2
      have hvl : vals.length ≤ 16777216 := by have := rd_len_I d xs2 s2 hxl2; rw [hR] at this; exact this
      have HO2 := hid hO2
      have HRL := hid (fun (w2 : World) (h : RdrAt w0 w2 gr xs2 s2) (h2 : gr < w2.heap.size) => readListI_any w0 w2 gr xs2 s2 d h h2 hxv2 hxl2 (by omega))
      rw [hR] at HRL
      clear hO2 hR hw HO HFAIL
      go_wp2_with fail
      go_quiet (first | (go_at_call 188; refine Calls.quiet_of_same (HEN.out _)))
      have HA4 := hid (HA3.out.mono (bdrew (brefl w3) nq))
      have HC4 := hid (HC3.out.drewN nq)
      have HCK4 := hid (HCK3.out.drewN nq)
      have HOE4 := hid (owns_below HOE.out (bdrew (brefl w3) nq))
      have hgr4 : gr < (w3.drewN nq).heap.size := hgr3
      have hB4 : B ≤ (w3.drewN nq).heap.size := hB3
      clear HA3 HC3 HCK3 HOE HR3 e2 e4 e6 HEN hgr3 hB3
      generalize w3.drewN nq = w4 at *
      have d9 : w4.cell? ⟨g, 0 + 9, none⟩ = some (.iface 68 (.agg #[])) := by rw [HCK4.out.cell]; rfl
      go_wp2_with fail
      refine (HRL.out w4 HA4.out hgr4).mono ?_
      rintro e w5 ⟨v3, rfl, ho3, ha3, hc3⟩
      obtain ⟨A3, c3, rfl, hcc3, _, _, _⟩ := owns_form ho3
      have HO5 := hid (owns_mono_I ho3 hB4)
      have HA5 := hid ha3
      have HC5 := hid (HC4.out.trans (Chg.wide' (a := g) hc3))
      have HCK5 := hid (hc3.row HCK4.out hne hne)
      have HOE5 := hid (owns_chg HOE4.out hc3 hrB hrB)
      have e5 : w5.cell? ⟨g, 0 + 5, none⟩ = some nilS := by rw [HCK5.out.cell]; rfl
      have f5 := HCK5.out.frozen (0 + 5)
      have hch6 := (Chg.refl g g w5).setCell g 5 (.slice A3 vals.length c3) (.inl rfl)
      have HCK6 : Hid (Row (w5.setCell ⟨g, 5, none⟩ (.slice A3 vals.length c3)) g 111 (ck_I rows codec wd nulls k (.slice A3 vals.length c3) (.slice (some ⟨p, 0, none⟩) es.length es.length) base nilS kind_I bef)) := hid (HCK5.out.set 5 _)
      have HO6 := hid (owns_chg HO5.out hch6 hgB hgB)
      have HOE6 := hid (owns_chg HOE5.out hch6 hgB hgB)
      have HA6 := hid (HA5.out.chg hch6 (Ne.symm hne) (Ne.symm hne) hg0 hg0)
      have HC6 := hid (HC5.out.setCell g 5 (.slice A3 vals.length c3) (.inl rfl))
      clear ho3 ha3 hc3 hcc3 HA4 HC4 HCK4 HOE4 d9 HRL HO5 HA5 HC5 HCK5 HOE5 hch6 hm hgr4 hB4
      go_upto_region 7 with fail
      clear e5 f5
      generalize w5.setCell ⟨g, 5, none⟩ (.slice A3 vals.length c3) = w6 at *
      have HDF := hid (differI_any _ vals w6 (owns_rd HO6.out) (by unfold maxLen; omega))
      have HO7 := hid (fun (n : Nat) (b : Bool) => (⟨⟨_, _, _, HCK6.out.drewN n, owns_below HO6.out (bdrew (brefl w6) n), owns_below HOE6.out (bdrew (brefl w6) n), World.ownsRow_nil _ _ _ _⟩, HA6.out.mono (bdrew (brefl w6) n), HC6.out.drewN n⟩ : OutAt_I w0 w (w6.drewN n) B g gr rows codec wd k nulls kind_I bef base { b := b, left := xl, short := s4, list := vals, ends := es, lanes := [] }))
      obtain ⟨df, hdf⟩ : ∃ df, noPair eqI vals = df := ⟨_, rfl⟩
      rw [hdf] at HDF HO2
      clear hdf
      have hO := HO2.out
      subst hO
      clear HO2
      cases ok
      case' false =>
        go_wp2_with fail
        go_ret
        exact ⟨rfl, HO7.out 0 _⟩
      case' true =>
        go_wp2_with (go_at_call 206; refine HDF.out.mono ?_; rintro e w7 ⟨rfl, n7, rfl⟩)
        go_ret
        exact ⟨rfl, HO7.out _ _⟩
end Go.Proofs.YthonbfojpbfmgaaGreatDoor

/- Package chunk: offsets and whole payloads of integers off the reader. -/
set_option linter.unusedVariables false
set_option linter.unusedSimpArgs false
set_option linter.unnecessarySimpa false
set_option maxRecDepth 100000
namespace Go.Proofs.YthonbfojpbfmgaaGreatDoor
open Go.RowKit

def roomN (base : Int) : Nat := (9223372036854775807 - base).toNat
def outOff (wd base : Int) (k : Nat) (xs : List Nat) (s : Bool) : Out_I :=
  { b := lanesB wd k 5 (restW xs) (roomN base), left := tkL (8 * (xs.length / 8)) xs, short := tkS (8 * (xs.length / 8)) xs s, list := [], ends := [], lanes := restW xs }
theorem room_u64 (b : Int) (h1 : -9223372036854775808 ≤ b) (h2 : b ≤ 9223372036854775807) : IntKind.u64.wrap (9223372036854775807 - IntKind.u64.wrap b) = ((roomN b : Nat) : Int) := by
  unfold roomN
  rw [IntKind.wrap_u64, IntKind.wrap_u64]
  omega
theorem sgn64_bd (x : Nat) : -9223372036854775808 ≤ sgn64 x ∧ sgn64 x ≤ 9223372036854775807 := by unfold sgn64 wrap64; omega

set_option maxHeartbeats 4000000 in
theorem readOffsets_any (w0 w : World) (g gr : Nat) (xs : List Nat) (s : Bool) (rows codec wd : Int) (k : Nat) (nulls bef : Value) (base : Int) (hT : Tab w0)
    (hc : Row w g 111 (ck_I rows codec wd nulls k nilS nilS base nilS kind_I bef)) (hr : RdrAt w0 w gr xs s) (hne : g ≠ gr) (hg0 : w0.heap.size ≤ g) (hgs : gr < w.heap.size)
    (hv : ∀ x ∈ xs, x < 256) (hl : xs.length ≤ 16777216) (hb1 : -9223372036854775808 ≤ base) (hb2 : base ≤ 9223372036854775807) :
    Calls Tryz.prog 159 #[.pointer (some ⟨g, 0, none⟩), .pointer (some ⟨gr, 0, none⟩)] w fun e w' =>
      e = .returned (.bool (outOff wd base k xs s).b) ∧ OutAt_I w0 w w' w.heap.size g gr rows codec wd k nulls kind_I bef base (outOff wd base k xs s) := by
  have hroom := room_u64 base hb1 hb2
  have hrl : roomN base < 18446744073709551616 := by unfold roomN; omega
  have HLN := hid (readLanes_I w0 w g gr xs s rows codec wd k nulls nilS nilS nilS kind_I bef base 5 (roomN base) hT hc hr hne hg0 hgs hv hl hrl)
  have e7 : w.cell? ⟨g, 0 + 7, none⟩ = some (.int .i64 base) := by rw [hc.cell]; rfl
  unfold outOff
  generalize roomN base = rm at *
  generalize lanesB wd k 5 (restW xs) rm = lb at *
  clear hc hr hv hT
  go_enter Tryz.func159, Tryz.ntmps159
  go_wp2_with fail
  refine HLN.out.mono ?_
  rintro e w1 ⟨rfl, v, h1, h2, h3, h4⟩
  have H1 := hid h1; have H2 := hid h2; have H3 := hid h3; have H4 := hid h4
  clear h1 h2 h3 h4
  go_wp2_with fail
  go_ret
  exact ⟨rfl, ⟨_, _, _, H1.out, World.ownsRow_nil _ _ _ _, World.ownsRow_nil _ _ _ _, H2.out⟩, H3.out, H4.out⟩

def basePay (codec : Nat) (xs : List Nat) : Int := if codec = 4 then sgn64 (L.wordOf 8 (tk 8 xs)) else 0
def outPay_I (codec : Nat) (wd : Int) (k : Nat) (xs : List Nat) (s : Bool) : Out_I :=
  if codec = 1 then outPlain_I wd k xs s else if codec = 2 then outDict_I wd k xs s else if codec = 3 then outRuns_I wd k xs s
  else if codec = 4 then outOff wd (basePay 4 xs) k (tkL 8 xs) (tkS 8 xs s) else outOff wd 0 k xs s

set_option maxHeartbeats 8000000 in
theorem readPayload_I (w0 w : World) (g gr : Nat) (xs : List Nat) (s : Bool) (rows wd : Int) (codec k : Nat) (nulls bef : Value) (hT : Tab w0)
    (hc : Row w g 111 (ck_I rows codec wd nulls k nilS nilS 0 nilS kind_I bef)) (hr : RdrAt w0 w gr xs s) (hne : g ≠ gr) (hg0 : w0.heap.size ≤ g) (hgs : gr < w.heap.size)
    (hv : ∀ x ∈ xs, x < 256) (hl : xs.length ≤ 16777216) (hk : k ≤ 65536) (hcd : 1 ≤ codec ∧ codec ≤ 5) :
    Calls Tryz.prog 105 #[.pointer (some ⟨g, 0, none⟩), .pointer (some ⟨gr, 0, none⟩)] w fun e w' =>
      e = .returned (.bool (outPay_I codec wd k xs s).b) ∧ OutAt_I w0 w w' w.heap.size g gr rows codec wd k nulls kind_I bef (basePay codec xs) (outPay_I codec wd k xs s) := by
  have c1 : w.cell? ⟨g, 0 + 1, none⟩ = some (.int .i64 codec) := by rw [hc.cell]; rfl
  obtain ⟨O, hO⟩ : ∃ O, outPay_I codec wd k xs s = O := ⟨_, rfl⟩
  obtain ⟨bs, hbs⟩ : ∃ bs, basePay codec xs = bs := ⟨_, rfl⟩
  rw [hO, hbs]
  have HO := hid hO
  have HBS := hid hbs
  have HC := hid hc
  clear hO hbs
  by_cases h1 : codec = 1
  · subst h1
    obtain rfl : outPlain_I wd k xs s = O := by rw [← HO.out]; rfl
    obtain rfl : (0 : Int) = bs := by rw [← HBS.out]; rfl
    have HP := hid (readPlain_I w0 w g gr xs s rows _ wd k nulls bef 0 hc hr hne hg0 hgs hv hl hk)
    generalize outPlain_I wd k xs s = O at *
    clear hc hr hv hT
    go_enter Tryz.func105, Tryz.ntmps105
    go_wp2_with (go_at_call 156; refine HP.out.mono ?_; rintro e w1 ⟨rfl, h⟩; have H := hid h; clear h)
    go_ret
    exact ⟨rfl, H.out⟩
  by_cases h2 : codec = 2
  · subst h2
    obtain rfl : outDict_I wd k xs s = O := by rw [← HO.out]; rfl
    obtain rfl : (0 : Int) = bs := by rw [← HBS.out]; rfl
    have HP := hid (readDict_I w0 w g gr xs s rows _ wd k nulls bef 0 hT hc hr hne hg0 hgs hv hl hk)
    generalize outDict_I wd k xs s = O at *
    clear hc hr hv hT
    go_enter Tryz.func105, Tryz.ntmps105
    go_wp2_with (go_at_call 157; refine HP.out.mono ?_; rintro e w1 ⟨rfl, h⟩; have H := hid h; clear h)
    go_ret
    exact ⟨rfl, H.out⟩
  by_cases h3 : codec = 3
  · subst h3
    obtain rfl : outRuns_I wd k xs s = O := by rw [← HO.out]; rfl
    obtain rfl : (0 : Int) = bs := by rw [← HBS.out]; rfl
    have HP := hid (readRuns_I w0 w g gr xs s rows _ wd k nulls bef 0 hc hr hne hg0 hgs hv hl hk)
    generalize outRuns_I wd k xs s = O at *
    clear hc hr hv hT
    go_enter Tryz.func105, Tryz.ntmps105
    go_wp2_with (go_at_call 158; refine HP.out.mono ?_; rintro e w1 ⟨rfl, h⟩; have H := hid h; clear h)
    go_ret
    exact ⟨rfl, H.out⟩
  by_cases h4 : codec = 4
  · subst h4
    obtain rfl : outOff wd (basePay 4 xs) k (tkL 8 xs) (tkS 8 xs s) = O := by rw [← HO.out]; rfl
    obtain rfl : basePay 4 xs = bs := HBS.out
    obtain ⟨xs1, hx1⟩ : ∃ xs1, tkL 8 xs = xs1 := ⟨_, rfl⟩
    obtain ⟨s1, hs1⟩ : ∃ s1, tkS 8 xs s = s1 := ⟨_, rfl⟩
    have hxl1 : xs1.length ≤ 16777216 := by rw [← hx1]; exact Nat.le_trans (tkL_le _ _) hl
    have hxv1 : ∀ x ∈ xs1, x < 256 := by rw [← hx1]; exact tkL_lt hv
    obtain ⟨x, hx⟩ : ∃ x, L.wordOf 8 (tk 8 xs) = x := ⟨_, rfl⟩
    have hx64 : x < 18446744073709551616 := by rw [← hx]; exact wordOf8_lt _ (tk_lt hv) (tk_le 8 xs)
    have hbp : basePay 4 xs = sgn64 x := by unfold basePay; rw [if_pos rfl, hx]
    have hU := U64_any w0 w gr xs s hr hv hl
    rw [hx, hx1, hs1] at hU
    rw [hx1, hs1, hbp]
    have HU := hid hU
    have HT := hid hT
    have c7 : w.cell? ⟨g, 0 + 7, none⟩ = some (.int .i64 0) := by rw [hc.cell]; rfl
    have hgw : g < w.heap.size := hc.lt
    have HOFF := hid (fun (w2 : World) (h1 : Row w2 g 111 (ck_I rows (4 : Nat) wd nulls k nilS nilS (sgn64 x) nilS kind_I bef)) (h2 : RdrAt w0 w2 gr xs1 s1) (h3 : gr < w2.heap.size) =>
      readOffsets_any w0 w2 g gr xs1 s1 rows (4 : Nat) wd k nulls bef (sgn64 x) hT h1 h2 hne hg0 h3 hxv1 hxl1 (sgn64_bd x).1 (sgn64_bd x).2)
    obtain ⟨B, hB⟩ : ∃ B, w.heap.size = B := ⟨_, rfl⟩
    have HB := hid hB
    rw [hB]
    generalize outOff wd (sgn64 x) k xs1 s1 = O at *
    clear hc hr hv hT hU hx1 hs1 hx hbp HO HBS hB hxv1
    go_enter Tryz.func105, Tryz.ntmps105
    go_wp2_with fail
    refine HU.out.mono ?_
    rintro e w1 ⟨rfl, h1, h2⟩
    have HCK1 := hid (h2.row HC.out hne hne)
    have d7 : w1.cell? ⟨g, 0 + 7, none⟩ = some (.int .i64 0) := by rw [HCK1.out.cell]; rfl
    have f7 := HCK1.out.frozen (0 + 7)
    have hch := (Chg.refl g g w1).setCell g 7 (.int .i64 (sgn64 x)) (.inl rfl)
    have HCK2 : Hid (Row (w1.setCell ⟨g, 7, none⟩ (.int .i64 (sgn64 x))) g 111 (ck_I rows (4 : Nat) wd nulls k nilS nilS (sgn64 x) nilS kind_I bef)) := hid (HCK1.out.set 7 _)
    have HA2 := hid (h1.chg hch (Ne.symm hne) (Ne.symm hne) hg0 hg0)
    have HC2 := hid ((Chg.wide' (a := g) h2).setCell g 7 (.int .i64 (sgn64 x)) (.inl rfl))
    have hgr2 : gr < (w1.setCell ⟨g, 7, none⟩ (.int .i64 (sgn64 x))).heap.size := Nat.lt_of_lt_of_le hgs HC2.out.size
    have hB2 : B ≤ (w1.setCell ⟨g, 7, none⟩ (.int .i64 (sgn64 x))).heap.size := by have := HB.out; have := HC2.out.size; omega
    have esg : wrap64 (x : Int) = sgn64 x := rfl
    clear h1 h2 hch HC HCK1 c7 HU
    go_wp2_with fail
    rw [esg]
    clear d7 f7 esg
    generalize w1.setCell ⟨g, 7, none⟩ (.int .i64 (sgn64 x)) = w2 at *
    refine (HOFF.out w2 HCK2.out HA2.out hgr2).mono ?_
    rintro e w3 ⟨rfl, h⟩
    have H := hid h
    clear h
    go_wp2_with fail
    go_ret
    obtain ⟨⟨lv, ev, nv, h1, h2, h3, h4⟩, h5, h6⟩ := H.out
    exact ⟨rfl, ⟨lv, ev, nv, h1, owns_mono_I h2 hB2, owns_mono_I h3 hB2, owns_mono_I h4 hB2⟩, h5, HC2.out.trans h6⟩
  · obtain rfl : codec = 5 := by omega
    obtain rfl : outOff wd 0 k xs s = O := by rw [← HO.out]; rfl
    obtain rfl : (0 : Int) = bs := by rw [← HBS.out]; rfl
    have HP := hid (readOffsets_any w0 w g gr xs s rows _ wd k nulls bef 0 hT hc hr hne hg0 hgs hv hl (by omega) (by omega))
    generalize outOff wd 0 k xs s = O at *
    clear hc hr hv hT
    go_enter Tryz.func105, Tryz.ntmps105
    go_wp2_with (go_at_call 159; refine HP.out.mono ?_; rintro e w1 ⟨rfl, h⟩; have H := hid h; clear h)
    go_ret
    exact ⟨rfl, H.out⟩
end Go.Proofs.YthonbfojpbfmgaaGreatDoor

/- The plain answer: lists of integers, sums. -/
set_option linter.unusedVariables false
set_option linter.unusedSimpArgs false
set_option linter.unnecessarySimpa false
set_option maxRecDepth 100000
namespace Go.Proofs.YthonbfojpbfmgaaGreatDoor
open Go.RowKit

/-- the value base + lane, as the plain answer makes it -/
def vsum (base : Int) (x : Nat) : Int := wrap64 (IntKind.u64.wrap (IntKind.u64.wrap base + (x : Int)))
def fits (base : Int) (ls : List Nat) : Bool := ls.all fun x => decide (x ≤ roomN base)
def sumsL (base : Int) (ls : List Nat) : List Int := if fits base ls = true then ls.map (vsum base) else []
end Go.Proofs.YthonbfojpbfmgaaGreatDoor

/- The plain answer: lists of values at a place. -/
set_option linter.unusedVariables false
set_option linter.unusedSimpArgs false
set_option linter.unnecessarySimpa false
set_option maxRecDepth 100000
namespace Go.Proofs.YthonbfojpbfmgaaGreatDoor
open Go.RowKit

theorem Rd.short {w : World} {A : Option Addr} {c L : Nat} {xs : List Nat} (h : Rd w (.slice A L c) xs.length 1 (u8s xs)) (n : Nat) (hn : n ≤ xs.length) : Rd w (.slice A n c) (xs.take n).length 1 (u8s (xs.take n)) := by
  have hl : (xs.take n).length = n := by rw [List.length_take]; omega
  rw [hl]
  refine ⟨by rw [u8s_length, hl]; omega, ?_⟩
  rcases h.2 with ⟨⟨A', e⟩, h0⟩ | ⟨b, o, cap, e, h1, h2, hs⟩
  · simp only [Value.slice.injEq] at e
    obtain ⟨rfl, rfl, rfl⟩ := e
    obtain rfl : n = 0 := by omega
    exact .inl ⟨⟨A, rfl⟩, rfl⟩
  · cases e
    refine .inr ⟨b, o, c, rfl, by omega, h2, fun i v hv => hs i v ?_⟩
    rw [← take_u8s, List.getElem?_take] at hv
    split at hv
    · exact hv
    · cases hv
/-- is there a list of m strings at place p? -/
def strsOk (m p : Nat) (xs : List Nat) : Bool := numsOk 4 m p xs.length && match textEnd 0 (nI (numL 4 (tk (4 * m) (xs.drop p)))) with
  | none => false
  | some sz => decide (sz ≤ ((xs.length - (p + 4 * m) : Nat) : Int))
def strsV (m p : Nat) (xs : List Nat) : List ByteArray := if strsOk m p xs = true then cutS 0 (xs.drop (p + 4 * m)) (nI (numL 4 (tk (4 * m) (xs.drop p)))) else []
def strsNx (m p : Nat) (xs : List Nat) : Nat := if strsOk m p xs = true then p + 4 * m + (tsz (nI (numL 4 (tk (4 * m) (xs.drop p))))).toNat else 0

end Go.Proofs.YthonbfojpbfmgaaGreatDoor

/- The plain answer: values as pairs, their order, lists of them whatever the kind. -/
set_option linter.unusedVariables false
set_option linter.unusedSimpArgs false
set_option linter.unnecessarySimpa false
set_option maxRecDepth 100000
namespace Go.Proofs.YthonbfojpbfmgaaGreatDoor
open Go.RowKit

def dfP : Int × ByteArray := (0, default)
def pI (x : Int) : Int × ByteArray := (x, ByteArray.empty)
def pS (x : ByteArray) : Int × ByteArray := (0, x)
def ordP (x y : Int × ByteArray) : Int := if x.1 < y.1 then -1 else if y.1 < x.1 then 1 else ordS x.2 y.2
/-- the list of m values of a kind at place p -/
def listOk (kd : Nat) (m p : Nat) (xs : List Nat) : Bool := if kd = 1 then numsOk 8 m p xs.length else strsOk m p xs
def listNx (kd : Nat) (m p : Nat) (xs : List Nat) : Nat := if kd = 1 then (if numsOk 8 m p xs.length = true then p + 8 * m else 0) else strsNx m p xs
def listP (kd : Nat) (m p : Nat) (xs : List Nat) : List (Int × ByteArray) := if kd = 1 then ((numL 8 (tk (8 * m) (xs.drop p))).map sgn64).map pI else (strsV m p xs).map pS
end Go.Proofs.YthonbfojpbfmgaaGreatDoor
