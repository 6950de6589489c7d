/- Package chunk: the parts of a payload off the reader. -/
import Derived.Test.YthonbfojpbfmgaaGreatDoorLawfoldsplitB10
import Derived.Test.YthonbfojpbfmgaaGreatDoorLawfoldsplitB6
import Derived.Deep.CutRange
import Derived.Deep.RegionHeld3
set_option linter.unusedVariables false
set_option linter.unusedSimpArgs false
set_option linter.unnecessarySimpa false
set_option maxRecDepth 100000
namespace Go.Proofs.YthonbfojpbfmgaaGreatDoor
open Go.RowKit

set_option maxHeartbeats 4000000 in
theorem readLanes_S (w0 w : World) (g gr : Nat) (xs : List Nat) (s : Bool) (rows codec wd k : Int) (nulls list ends lanes kind bef : Value) (base op : Int) (lim : Nat)
    (hT : Tab w0) (hc : Row w g 94 (ck_S rows codec wd nulls k list ends base lanes kind bef)) (hr : RdrAt w0 w gr xs s) (hne : g ≠ gr) (hg0 : w0.heap.size ≤ g) (hgs : gr < w.heap.size)
    (hv : ∀ x ∈ xs, x < 256) (hl : xs.length ≤ 16777216) (hlim : lim < 18446744073709551616) :
    Calls Tryz.prog 186 #[.pointer (some ⟨g, 0, none⟩), .pointer (some ⟨gr, 0, none⟩), .int .i64 op, .int .u64 lim] w fun e w' =>
      e = .returned (.bool (lanesB wd k op (restW xs) lim)) ∧ ∃ v, Row w' g 94 (ck_S rows codec wd nulls k list ends base v kind bef) ∧
        w'.ownsRow w.heap.size 40 1 v (restW xs).length (u64s (restW xs)) ∧ RdrAt w0 w' gr (tkL (8 * (xs.length / 8)) xs) (tkS (8 * (xs.length / 8)) xs s) ∧ Chg g gr w w' := by
  obtain ⟨ws, hws⟩ : ∃ ws, restW xs = ws := ⟨_, rfl⟩
  have hwv : ∀ x ∈ ws, x < 18446744073709551616 := by rw [← hws]; exact numL_lt (tk_lt hv) (by omega)
  have hwl : ws.length ≤ 2097152 := by rw [← hws, restW_len]; omega
  obtain ⟨c, hcc⟩ : ∃ c, xs.length / 8 = c := ⟨_, rfl⟩
  obtain ⟨xl, hxl⟩ : ∃ xl, tkL (8 * c) xs = xl := ⟨_, rfl⟩
  obtain ⟨s1, hs1⟩ : ∃ s1, tkS (8 * c) xs s = s1 := ⟨_, rfl⟩
  have hU := U64s_any w0 w gr xs s c hr hgs hv hl (by omega)
  have hwc : numL 8 (tk (8 * c) xs) = ws := by rw [← hws, ← hcc]; rfl
  rw [hwc, hxl, hs1] at hU
  rw [hws, hcc, hxl, hs1]
  have HU := hid hU
  have HLEFT := hid (Left_any w0 w gr xs s hr hl)
  have hce : (xs.length : Int) / 8 = (c : Int) := by omega
  have HC := hid hc
  have HR := hid hr
  have HT := hid hT
  have HTL := hid hT.lt
  have hgw : g < w.heap.size := hc.lt
  obtain ⟨B, hB⟩ : ∃ B, w.heap.size = B := ⟨_, rfl⟩
  have HB := hid hB
  rw [hB]
  obtain ⟨wr, hwr⟩ : ∃ wr, cmpR wd k op ws lim = wr := ⟨_, rfl⟩
  obtain ⟨ok, hok⟩ : ∃ ok, cmpOk wd k op ws = ok := ⟨_, rfl⟩
  have hwrl : wr.length ≤ maxLen := by rw [← hwr]; have := cmpR_len wd k op ws lim; unfold maxLen; omega
  have hwrv : ∀ x ∈ wr, x < 18446744073709551616 := by rw [← hwr]; exact cmpR_lt wd k op ws lim
  have eB : lanesB wd k op ws lim = (ok && (rankR k k wr == 0)) := by rw [lanesB, hwr, hok]
  rw [eB]
  have HCMP := hid (fun (w2 : World) (v : Value) (h1 : Tab w2) (h2 : Rd w2 v ws.length 1 (u64s ws)) => Compare_any v ws wd k op lim w2 h1 h2 hwv hlim (by unfold maxLen; omega))
  rw [hwr, hok] at HCMP
  obtain ⟨rk, hrk⟩ : ∃ rk, rankR k k wr = rk := ⟨_, rfl⟩
  have HRANK := hid (fun (w2 : World) (v : Value) (h2 : Rd w2 v wr.length 1 (u64s wr)) => Rank_any v wr k k w2 h2 hwrv hwrl)
  rw [hrk] at HRANK ⊢
  clear hws hwc hxl hs1 hcc hU hc hr hT hB hwr hok eB hrk hv hwv
  go_enter Tryz.func186, Tryz.ntmps186
  go_upto_region 2 with (first
    | (go_at_call 84; refine HLEFT.out.mono ?_; rintro e w1 ⟨rfl, hw⟩; replace hw := hw.symm; subst hw)
    | (go_at_call 80; refine HU.out.mono ?_; rintro e w1 ⟨p, hp, rfl, hrow, hat, hch⟩; have HP := hid hp; have HROW := hid hrow; have HAT := hid hat; have HCH := hid hch; have HCK := hid (hch.row HC.out hne hne); have c8 : w1.cell? ⟨g, 0 + 8, none⟩ = some lanes := (by rw [HCK.out.cell]; rfl); have f8 := HCK.out.frozen (0 + 8); clear hp hrow hat hch))
  have HCK2 : Hid (Row (w1.setCell ⟨g, 8, none⟩ (.slice (some ⟨p, 0, none⟩) ws.length ws.length)) g 94 (ck_S rows codec wd nulls k list ends base (.slice (some ⟨p, 0, none⟩) ws.length ws.length) kind bef)) := hid (HCK.out.set 8 _)
  have HS := hid ((Chg.refl g gr w1).setCell g 8 (.slice (some ⟨p, 0, none⟩) ws.length ws.length) (.inl rfl))
  have hpB : B ≤ p := by have := HP.out; have := HB.out; omega
  have hpg : p ≠ g := by have := HB.out; omega
  have hpgr : p ≠ gr := by have := HB.out; omega
  have HAT2 := hid (HAT.out.chg ((Chg.refl g g w1).setCell g 8 (.slice (some ⟨p, 0, none⟩) ws.length ws.length) (.inl rfl)) (Ne.symm hne) (Ne.symm hne) hg0 hg0)
  have HROW2 := hid (HS.out.row HROW.out hpg hpgr)
  have HCH2 := hid ((Chg.wide' (a := g) HCH.out).trans HS.out)
  clear HCK HROW HAT HS HC HR HLEFT HU
  generalize w1.setCell ⟨g, 8, none⟩ (.slice (some ⟨p, 0, none⟩) ws.length ws.length) = w2 at *
  have hT2 : Hid (Tab w2) := hid (HT.out.mono HAT2.out.2.1 HTL.out)
  have HRD2 := hid (HROW2.out.rd' (n := ws.length) (by simp [u64s]) (by unfold maxLen; omega))
  have d8 : w2.cell? ⟨g, 0 + 8, none⟩ = some (.slice (some ⟨p, 0, none⟩) ws.length ws.length) := by rw [HCK2.out.cell]; rfl
  have d2 : w2.cell? ⟨g, 0 + 2, none⟩ = some (.int .i64 wd) := by rw [HCK2.out.cell]; rfl
  have d4 : w2.cell? ⟨g, 0 + 4, none⟩ = some (.int .i64 k) := by rw [HCK2.out.cell]; rfl
  have HC3 := hid (fun nd : Nat => HCMP.out (w2.drewN nd) _ (hT2.out.mono (bdrew (brefl w2) nd) hT2.out.lt) (HRD2.out.mono (bdrew (brefl w2) nd)))
  clear c8 f8 HCMP
  have d8' : w2.cell? ⟨g, 8, none⟩ = some (.slice (some ⟨p, 0, none⟩) ws.length ws.length) := by rw [HCK2.out.cell]; rfl
  have d2' : w2.cell? ⟨g, 2, none⟩ = some (.int .i64 wd) := by rw [HCK2.out.cell]; rfl
  have d4' : w2.cell? ⟨g, 4, none⟩ = some (.int .i64 k) := by rw [HCK2.out.cell]; rfl
  clear d8 d2 d4
  have hgw2 : g < w2.heap.size := HCK2.out.lt
  go_cut [9, 10] from 11 (fun s9 s10 wc => s10 = .bool ok ∧ Hid (Rd wc s9 wr.length 1 (u64s wr)) ∧ Hid (Below w2.heap.size w2 wc))
  case first =>
    go_region_held3 (fun w' => w'.cell? ⟨g, 8, none⟩ = some (.slice (some ⟨p, 0, none⟩) ws.length ws.length) ∧ w'.cell? ⟨g, 2, none⟩ = some (.int .i64 wd) ∧ w'.cell? ⟨g, 4, none⟩ = some (.int .i64 k)) (go_keep)
      (first | (go_at_call 52; refine (HC3.out 1).mono ?_; rintro e w3 ⟨r3, rfl, ho3, hb3⟩; have HO3 := hid ho3; have HB3 := hid hb3; obtain ⟨A3, c3, rfl, hc3, _, _, _⟩ := owns_form ho3; have k8 := (hb3.cell (p := ⟨g, 8, none⟩) hgw2).trans d8'; have k2 := (hb3.cell (p := ⟨g, 2, none⟩) hgw2).trans d2'; have k4 := (hb3.cell (p := ⟨g, 4, none⟩) hgw2).trans d4'; clear ho3 hb3 hc3))
    all_goals (go_wp2_with fail; go_meet)
    all_goals exact ⟨rfl, hid (owns_rd HO3.out), hid ((bdrew (brefl w2) _).trans HB3.out)⟩
  case rest =>
    obtain ⟨rfl, HW9, HB9⟩ := hcut
    have HCK3 : Hid (Row wc g 94 (ck_S rows codec wd nulls k list ends base (.slice (some ⟨p, 0, none⟩) ws.length ws.length) kind bef)) := hid (HCK2.out.mono HB9.out)
    have e4 : wc.cell? ⟨g, 4, none⟩ = some (.int .i64 k) := by rw [HCK3.out.cell]; rfl
    have HRK := hid (fun nd : Nat => HRANK.out (wc.drewN nd) _ (HW9.out.mono (bdrew (brefl wc) nd)))
    have HROW3 := hid (HROW2.out.mono HB9.out)
    have HAT3 := hid (HAT2.out.mono HB9.out)
    have HCH3 := hid (HCH2.out.then_below HB9.out HCH2.out.size)
    clear HCK2 HROW2 HAT2 HCH2 HB9 d8' d2' d4' HC3 HRANK HW9 HRD2 hT2
    cases ok
    case' false =>
      go_wp2_with fail
      go_quiet (fail)
    case' true =>
      go_wp2_with fail
      go_quiet (first | (go_at_call 36; refine Calls.quiet_of (HRK.out _)))
    all_goals go_wp2_with fail
    all_goals go_ret
    all_goals exact ⟨rfl, _, HCK3.out.drewN nq, (HROW3.out.drewN nq).owns hpB (by simp [u64s]) (by unfold maxLen; omega), HAT3.out.mono (bdrew (brefl wc) nq), HCH3.out.drewN nq⟩

theorem m_readList_S : ∀ w : World, (method 386 66 (.agg #[]) "colscan/chunk.readList").run Tryz.prog w = .ok (268, .agg #[]) w := fun _ => by kernel_rfl
/-- what reading a payload off the reader leaves -/
structure Out_S where
  b : Bool
  left : List Nat
  short : Bool
  list : List ByteArray
  ends : List Nat
  lanes : List Nat
/-- .. as memory has it -/
structure OutAt_S (w0 w w' : World) (B g gr : Nat) (rows codec wd k : Int) (nulls kind bef : Value) (base : Int) (o : Out_S) : Prop where
  ck : ∃ lv ev nv, Row w' g 94 (ck_S rows codec wd nulls k lv ev base nv kind bef) ∧ w'.ownsRow B 9 1 lv o.list.length (strs o.list) ∧
    w'.ownsRow B 3 1 ev o.ends.length (nIs o.ends) ∧ w'.ownsRow B 40 1 nv o.lanes.length (u64s o.lanes)
  rdr : RdrAt w0 w' gr o.left o.short
  chg : Chg g gr w w'
def kind_S : Value := .iface 66 (.agg #[])

def outPlain_S (wd : Int) (k : Nat) (xs : List Nat) (s : Bool) : Out_S :=
  { b := (rdS k xs s).2.1 && decide (wd = 0), left := (rdS k xs s).2.2.1, short := (rdS k xs s).2.2.2, list := (rdS k xs s).1, ends := [], lanes := [] }

set_option maxHeartbeats 4000000 in
theorem readPlain_S (w0 w : World) (g gr : Nat) (xs : List Nat) (s : Bool) (rows codec wd : Int) (k : Nat) (nulls bef : Value) (base : Int)
    (hc : Row w g 94 (ck_S rows codec wd nulls k nilS nilS base nilS kind_S bef)) (hr : RdrAt w0 w gr xs s) (hne : g ≠ gr) (hg0 : w0.heap.size ≤ g) (hgs : gr < w.heap.size)
    (hv : ∀ x ∈ xs, x < 256) (hl : xs.length ≤ 16777216) (hk : k ≤ 65536) :
    Calls Tryz.prog 139 #[.pointer (some ⟨g, 0, none⟩), .pointer (some ⟨gr, 0, none⟩)] w fun e w' =>
      e = .returned (.bool (outPlain_S wd k xs s).b) ∧ OutAt_S w0 w w' w.heap.size g gr rows codec wd k nulls kind_S bef base (outPlain_S wd k xs s) := by
  have HC := hid hc
  have HR := hid hr
  have HRL := hid (fun nd : Nat => readListS_any w0 (w.drewN nd) gr xs s k (hr.mono (bdrew (brefl w) nd)) hgs hv hl (by omega))
  have d9 : w.cell? ⟨g, 9, none⟩ = some (.iface 66 (.agg #[])) := by rw [hc.cell]; rfl
  have d4 : w.cell? ⟨g, 4, none⟩ = some (.int .i64 k) := by rw [hc.cell]; rfl
  have hgw : g < w.heap.size := hc.lt
  obtain ⟨vals, b, xl, s1, hR⟩ : ∃ vals b xl s1, rdS k xs s = (vals, b, xl, s1) := ⟨_, _, _, _, rfl⟩
  have eO : outPlain_S wd k xs s = { b := b && decide (wd = 0), left := xl, short := s1, list := vals, ends := [], lanes := [] } := by unfold outPlain_S; rw [hR]
  rw [eO]
  rw [hR] at HRL
  clear hc hr hv eO hR
  obtain ⟨B, hB⟩ : ∃ B, w.heap.size = B := ⟨_, rfl⟩
  have HB := hid hB
  rw [hB]
  clear hB
  have hm := m_readList_S
  go_enter Tryz.func139, Tryz.ntmps139
  go_upto_region 1 with fail
  go_cut [5, 6] from 7 (fun s5 s6 wc => ∃ A c, s5 = .slice A vals.length c ∧ s6 = .bool b ∧ Hid (wc.ownsRow B 9 1 (.slice A vals.length c) vals.length (strs vals)) ∧ Hid (RdrAt w0 wc gr xl s1) ∧ Hid (Chg g gr w wc) ∧ Hid (Row wc g 94 (ck_S rows codec wd nulls k nilS nilS base nilS kind_S bef)))
  case first =>
    go_region_held3 (fun w' => w'.cell? ⟨g, 9, none⟩ = some (.iface 66 (.agg #[])) ∧ w'.cell? ⟨g, 4, none⟩ = some (.int .i64 k)) (go_keep)
      (first | (go_at_call 268; refine (HRL.out 1).mono ?_; rintro e w3 ⟨v3, rfl, ho3, ha3, hc3⟩; have k9 := (hc3.cell g 9 hgw hne hne).trans d9; have k4 := (hc3.cell g 4 hgw hne hne).trans d4; have HO3 := hid ho3; have HA3 := hid ha3; have HC3 := hid (Chg.wide' (a := g) hc3); have HCK3 := hid (hc3.row (HC.out.drewN 1) hne hne); obtain ⟨A3, c3, rfl, hcc3, _, _, _⟩ := owns_form ho3; clear ho3 ha3 hc3 hcc3))
    all_goals (go_wp2_with fail; go_meet)
    all_goals exact ⟨_, _, rfl, rfl, hid (by rw [← HB.out]; exact HO3.out), HA3, hid (((Chg.refl g gr w).drewN 1).trans HC3.out), HCK3⟩
  case rest =>
    obtain ⟨A3, c3, rfl, rfl, HO3, HA3, HC3, HCK3⟩ := hcut
    have e5 : wc.cell? ⟨g, 0 + 5, none⟩ = some nilS := by rw [HCK3.out.cell]; rfl
    have e2 : wc.cell? ⟨g, 0 + 2, none⟩ = some (.int .i64 wd) := by rw [HCK3.out.cell]; rfl
    have f5 := HCK3.out.frozen (0 + 5)
    have hFIN : ∀ bb : Bool, OutAt_S w0 w (wc.setCell ⟨g, 5, none⟩ (.slice A3 vals.length c3)) B g gr rows codec wd k nulls kind_S bef base { b := bb, left := xl, short := s1, list := vals, ends := [], lanes := [] } := by
      intro bb
      have hch := (Chg.refl g g wc).setCell g 5 (.slice A3 vals.length c3) (.inl rfl)
      have hgB : g < B := by have := HB.out; omega
      exact ⟨⟨_, _, _, HCK3.out.set 5 _, owns_chg HO3.out hch hgB hgB, World.ownsRow_nil _ _ _ _, World.ownsRow_nil _ _ _ _⟩, HA3.out.chg hch (Ne.symm hne) (Ne.symm hne) hg0 hg0, HC3.out.setCell g 5 _ (.inl rfl)⟩
    have HFIN := hid hFIN
    clear hFIN HC HR HRL d9 d4 hm
    cases b
    case' false => go_wp2
    case' true => go_wp2
    all_goals go_ret
    all_goals exact ⟨by by_cases h : wd = 0 <;> simp [h], HFIN.out _⟩
end Go.Proofs.YthonbfojpbfmgaaGreatDoor

/- Package chunk: dictionaries, runs, offsets and whole payloads off the reader. -/
set_option linter.unusedVariables false
set_option linter.unusedSimpArgs false
set_option linter.unnecessarySimpa false
set_option maxRecDepth 100000
namespace Go.Proofs.YthonbfojpbfmgaaGreatDoor
open Go.RowKit

theorem owns_mono_S {w : World} {B C : Nat} {e : TypeId} {v : Value} {n : Nat} {cs : List Value} (h : w.ownsRow B e 1 v n cs) (hC : C ≤ B) : w.ownsRow C e 1 v n cs := by
  refine ⟨h.1, ?_⟩
  rcases h.2 with hn | ⟨g, cap, cur, rfl, hb', hg, r⟩
  · exact .inl hn
  · exact .inr ⟨g, cap, cur, rfl, Nat.le_trans hC hb', hg, r⟩
def outDict_S (wd : Int) (k : Nat) (xs : List Nat) (s : Bool) : Out_S :=
  if 256 < L.wordOf 8 (tk 4 xs) ∨ wd ≠ (needN (L.wordOf 8 (tk 4 xs)) : Int) then { b := false, left := tkL 4 xs, short := tkS 4 xs s, list := [], ends := [], lanes := [] }
  else match rdS (L.wordOf 8 (tk 4 xs)) (tkL 4 xs) (tkS 4 xs s) with
    | (vals, ok, xl, s1) =>
      if (ok && noPair geS vals) = true then { b := lanesB wd k 6 (restW xl) (L.wordOf 8 (tk 4 xs)), left := tkL (8 * (xl.length / 8)) xl, short := tkS (8 * (xl.length / 8)) xl s1, list := vals, ends := [], lanes := restW xl }
      else { b := false, left := xl, short := s1, list := vals, ends := [], lanes := [] }

set_option maxHeartbeats 8000000 in
theorem readDict_S (w0 w : World) (g gr : Nat) (xs : List Nat) (s : Bool) (rows codec wd : Int) (k : Nat) (nulls bef : Value) (base : Int) (hT : Tab w0)
    (hc : Row w g 94 (ck_S rows codec wd nulls k nilS nilS base nilS kind_S bef)) (hr : RdrAt w0 w gr xs s) (hne : g ≠ gr) (hg0 : w0.heap.size ≤ g) (hgs : gr < w.heap.size)
    (hv : ∀ x ∈ xs, x < 256) (hl : xs.length ≤ 16777216) (hk : k ≤ 65536) :
    Calls Tryz.prog 140 #[.pointer (some ⟨g, 0, none⟩), .pointer (some ⟨gr, 0, none⟩)] w fun e w' =>
      e = .returned (.bool (outDict_S wd k xs s).b) ∧ OutAt_S w0 w w' w.heap.size g gr rows codec wd k nulls kind_S bef base (outDict_S wd k xs s) := by
  have hU := U32_any w0 w gr xs s hr hv hl
  have hd32 : L.wordOf 8 (tk 4 xs) < 4294967296 := wordOf4_lt _ (tk_lt hv) (tk_le 4 xs)
  obtain ⟨d, hd⟩ : ∃ d, L.wordOf 8 (tk 4 xs) = d := ⟨_, rfl⟩
  obtain ⟨xs1, hx1⟩ : ∃ xs1, tkL 4 xs = xs1 := ⟨_, rfl⟩
  obtain ⟨s1, hs1⟩ : ∃ s1, tkS 4 xs s = s1 := ⟨_, rfl⟩
  have hxl1 : xs1.length ≤ 16777216 := by rw [← hx1]; exact Nat.le_trans (tkL_le _ _) hl
  have hxv1 : ∀ x ∈ xs1, x < 256 := by rw [← hx1]; exact tkL_lt hv
  obtain ⟨O, hO⟩ : ∃ O, outDict_S wd k xs s = O := ⟨_, rfl⟩
  have HO := hid hO
  unfold outDict_S at HO
  rw [hd, hx1, hs1] at HO
  rw [hd, hx1, hs1] at hU
  rw [hd] at hd32
  rw [hO]
  have HU := hid hU
  have HC := hid hc
  have HT := hid hT
  have hgw : g < w.heap.size := hc.lt
  have d2 : w.cell? ⟨g, 2, none⟩ = some (.int .i64 wd) := by rw [hc.cell]; rfl
  clear hU hc hr hT hd hx1 hs1 hO hv hl
  obtain ⟨B, hB⟩ : ∃ B, w.heap.size = B := ⟨_, rfl⟩
  have HB := hid hB
  rw [hB]
  clear hB
  have hm := m_readList_S
  go_enter Tryz.func140, Tryz.ntmps140
  go_upto_region 2 with (first | (go_at_call 183; refine HU.out.mono ?_; rintro e w1 ⟨rfl, ha1, hc1⟩; have HA1 := hid ha1; have HC1 := hid (Chg.wide' (a := g) hc1); have HCK1 := hid (hc1.row HC.out hne hne); clear ha1 hc1))
  have e2 : w1.cell? ⟨g, 2, none⟩ = some (.int .i64 wd) := by rw [HCK1.out.cell]; rfl
  have hgr1 : gr < w1.heap.size := Nat.lt_of_lt_of_le hgs HC1.out.size
  have hgB : g < B := by have := HB.out; omega
  have hB1 : B ≤ w1.heap.size := by have := HB.out; have := HC1.out.size; omega
  have HFAIL : Hid (∀ n, OutAt_S w0 w (w1.drewN n) B g gr rows codec wd k nulls kind_S bef base { b := false, left := xs1, short := s1, list := [], ends := [], lanes := [] }) := hid (fun n =>
    ⟨⟨_, _, _, HCK1.out.drewN n, World.ownsRow_nil _ _ _ _, World.ownsRow_nil _ _ _ _, World.ownsRow_nil _ _ _ _⟩, HA1.out.mono (bdrew (brefl w1) n), HC1.out.drewN n⟩)
  clear HU HC d2
  by_cases hbig : 256 < d
  · have hO : O = { b := false, left := xs1, short := s1, list := [], ends := [], lanes := [] } := by rw [← HO.out, if_pos (.inl hbig)]
    subst hO
    have hb1 : (d : Int) > 256 := by omega
    go_wp2_with fail
    go_quiet (fail)
    go_wp2_with fail
    go_ret
    exact ⟨rfl, HFAIL.out _⟩
  · have hb1 : ¬ (d : Int) > 256 := by omega
    obtain ⟨nd, hnd⟩ : ∃ nd, needN d = nd := ⟨_, rfl⟩
    have HN := hid (fun w2 : World => Need_any d w2 (by omega))
    rw [hnd] at HN HO
    clear hnd
    by_cases hw : wd = (nd : Int)
    · have hw1 : (wd != (nd : Int)) = false := by rw [hw]; simp
      have hO2 := HO.out
      rw [if_neg (fun h => h.elim (fun h => hbig h) (fun h => h hw))] at hO2
      obtain ⟨vals, ok, xl, s2, hR⟩ : ∃ vals ok xl s2, rdS d xs1 s1 = (vals, ok, xl, s2) := ⟨_, _, _, _, rfl⟩
      rw [hR] at hO2
      simp only at hO2
      have hxl : xl.length ≤ 16777216 := by have := (rd_left_S d xs1 s1).1; rw [hR] at this; exact Nat.le_trans this hxl1
      have hxv : ∀ x ∈ xl, x < 256 := by have := (rd_left_S d xs1 s1).2 256 hxv1; rw [hR] at this; exact this
      have hvl : vals.length ≤ 16777216 := by have := rd_len_S d xs1 s1 hxl1; rw [hR] at this; exact this
      have HO2 := hid hO2
      have HRL := hid (fun (w2 : World) (h : RdrAt w0 w2 gr xs1 s1) (h2 : gr < w2.heap.size) => readListS_any w0 w2 gr xs1 s1 d h h2 hxv1 hxl1 (by omega))
      rw [hR] at HRL
      have HHW := hid hw
      clear hO2 hR hw HO HFAIL
      go_wp2_with fail
      go_quiet (first | (go_at_call 184; refine Calls.quiet_of_same (HN.out _)))
      have HA2 := hid (HA1.out.mono (bdrew (brefl w1) nq))
      have HC2 := hid (HC1.out.drewN nq)
      have HCK2 := hid (HCK1.out.drewN nq)
      have hgr2 : gr < (w1.drewN nq).heap.size := hgr1
      have hB2 : B ≤ (w1.drewN nq).heap.size := hB1
      clear HA1 HC1 HCK1 e2 HN
      generalize w1.drewN nq = w2 at *
      have d9 : w2.cell? ⟨g, 0 + 9, none⟩ = some (.iface 66 (.agg #[])) := by rw [HCK2.out.cell]; rfl
      go_wp2_with fail
      refine (HRL.out w2 HA2.out hgr2).mono ?_
      rintro e w3 ⟨v3, rfl, ho3, ha3, hc3⟩
      obtain ⟨A3, c3, rfl, hcc3, _, _, _⟩ := owns_form ho3
      have HO3 := hid (owns_mono_S ho3 hB2)
      have HA3 := hid ha3
      have HC3 := hid (HC2.out.trans (Chg.wide' (a := g) hc3))
      have HCK3 := hid (hc3.row HCK2.out hne hne)
      have e5 : w3.cell? ⟨g, 0 + 5, none⟩ = some nilS := by rw [HCK3.out.cell]; rfl
      have f5 := HCK3.out.frozen (0 + 5)
      have hgr3 : gr < w3.heap.size := Nat.lt_of_lt_of_le hgs HC3.out.size
      have hch4 := (Chg.refl g g w3).setCell g 5 (.slice A3 vals.length c3) (.inl rfl)
      have HCK4 : Hid (Row (w3.setCell ⟨g, 5, none⟩ (.slice A3 vals.length c3)) g 94 (ck_S rows codec wd nulls k (.slice A3 vals.length c3) nilS base nilS kind_S bef)) := hid (HCK3.out.set 5 _)
      have HO4 := hid (owns_chg HO3.out hch4 hgB hgB)
      have HA4 := hid (HA3.out.chg hch4 (Ne.symm hne) (Ne.symm hne) hg0 hg0)
      have HC4 := hid (HC3.out.setCell g 5 (.slice A3 vals.length c3) (.inl rfl))
      have hgr4 : gr < (w3.setCell ⟨g, 5, none⟩ (.slice A3 vals.length c3)).heap.size := Nat.lt_of_lt_of_le hgr3 hch4.size
      have hB4 : B ≤ (w3.setCell ⟨g, 5, none⟩ (.slice A3 vals.length c3)).heap.size := Nat.le_trans hB2 (Nat.le_trans hc3.size hch4.size)
      clear ho3 ha3 hc3 hcc3 HA2 HC2 HCK2 d9 HRL HO3 HA3 HC3 HCK3 hch4 hm hgr2 hgr3 hB2
      go_upto_region 6 with fail
      clear e5 f5
      generalize w3.setCell ⟨g, 5, none⟩ (.slice A3 vals.length c3) = w4 at *
      have HASC := hid (ascendingS_any _ vals w4 (owns_rd HO4.out) (by unfold maxLen; omega))
      have HLN := hid (fun n : Nat => readLanes_S w0 (w4.drewN n) g gr xl s2 rows codec wd k nulls (.slice A3 vals.length c3) nilS nilS kind_S bef base 6 d HT.out (HCK4.out.drewN n) (HA4.out.mono (bdrew (brefl w4) n)) hne hg0 hgr4 hxv hxl (by omega))
      have HO5 := hid (fun n : Nat => (⟨⟨_, _, _, HCK4.out.drewN n, owns_below HO4.out (bdrew (brefl w4) n), World.ownsRow_nil _ _ _ _, World.ownsRow_nil _ _ _ _⟩, HA4.out.mono (bdrew (brefl w4) n), HC4.out.drewN n⟩ : OutAt_S w0 w (w4.drewN n) B g gr rows codec wd k nulls kind_S bef base { b := false, left := xl, short := s2, list := vals, ends := [], lanes := [] }))
      obtain ⟨asc, hasc⟩ : ∃ asc, noPair geS vals = asc := ⟨_, rfl⟩
      rw [hasc] at HASC HO2
      clear hasc
      cases ok
      case' false =>
        have hO := HO2.out
        rw [if_neg (by simp)] at hO
        subst hO
        go_wp2_with fail
        go_ret
        exact ⟨rfl, HO5.out 0⟩
      cases asc
      case' false =>
        have hO := HO2.out
        rw [if_neg (by simp)] at hO
        subst hO
        go_wp2_with (go_at_call 185; refine HASC.out.mono ?_; rintro e w5 ⟨rfl, n5, rfl⟩)
        go_ret
        exact ⟨rfl, HO5.out _⟩
      case' true =>
        have hO := HO2.out
        rw [if_pos (by rfl)] at hO
        obtain ⟨lb, hlb⟩ : ∃ lb, lanesB wd k 6 (restW xl) d = lb := ⟨_, rfl⟩
        rw [hlb] at HLN hO
        clear HO5 HO2 hlb
        subst hO
        go_wp2_with (first
          | (go_at_call 185; refine HASC.out.mono ?_; rintro e w5 ⟨rfl, n5, rfl⟩)
          | (go_at_call 186; refine (HLN.out n5).mono ?_; rintro e w6 ⟨rfl, v6, hr6, ho6, ha6, hc6⟩; have HR6 := hid hr6; have HO6 := hid (owns_mono_S ho6 hB4); have HA6 := hid ha6; have HC6 := hid hc6; have HO46 := hid (owns_chg (owns_below HO4.out (bdrew (brefl w4) n5)) hc6 hgB (by have := HB.out; omega)); clear hr6 ho6 ha6 hc6))
        go_ret
        exact ⟨rfl, ⟨_, _, _, HR6.out, HO46.out, World.ownsRow_nil _ _ _ _, HO6.out⟩, HA6.out, (HC4.out.drewN n5).trans HC6.out⟩
    · have hO : O = { b := false, left := xs1, short := s1, list := [], ends := [], lanes := [] } := by rw [← HO.out, if_pos (.inr hw)]
      subst hO
      have hw1 : (wd != (nd : Int)) = true := by rw [bne_iff_ne]; exact hw
      go_wp2_with fail
      go_quiet (first | (go_at_call 184; refine Calls.quiet_of_same (HN.out _)))
      go_wp2_with fail
      go_ret
      exact ⟨rfl, HFAIL.out _⟩
end Go.Proofs.YthonbfojpbfmgaaGreatDoor

/- Package chunk: runs off the reader. -/
set_option linter.unusedVariables false
set_option linter.unusedSimpArgs false
set_option linter.unnecessarySimpa false
set_option maxRecDepth 100000
namespace Go.Proofs.YthonbfojpbfmgaaGreatDoor
open Go.RowKit

def outRuns_S (wd : Int) (k : Nat) (xs : List Nat) (s : Bool) : Out_S :=
  if wd ≠ 0 ∨ runEnds (nI (numL 4 (tk (4 * L.wordOf 8 (tk 4 xs)) (tkL 4 xs)))) k = false then
    { b := false, left := tkL (4 * L.wordOf 8 (tk 4 xs)) (tkL 4 xs), short := tkS (4 * L.wordOf 8 (tk 4 xs)) (tkL 4 xs) (tkS 4 xs s), list := [], ends := numL 4 (tk (4 * L.wordOf 8 (tk 4 xs)) (tkL 4 xs)), lanes := [] }
  else match rdS (L.wordOf 8 (tk 4 xs)) (tkL (4 * L.wordOf 8 (tk 4 xs)) (tkL 4 xs)) (tkS (4 * L.wordOf 8 (tk 4 xs)) (tkL 4 xs) (tkS 4 xs s)) with
    | (vals, ok, xl, s3) => { b := ok && noPair eqS vals, left := xl, short := s3, list := vals, ends := numL 4 (tk (4 * L.wordOf 8 (tk 4 xs)) (tkL 4 xs)), lanes := [] }

set_option maxHeartbeats 8000000 in
theorem readRuns_S (w0 w : World) (g gr : Nat) (xs : List Nat) (s : Bool) (rows codec wd : Int) (k : Nat) (nulls bef : Value) (base : Int)
    (hc : Row w g 94 (ck_S rows codec wd nulls k nilS nilS base nilS kind_S bef)) (hr : RdrAt w0 w gr xs s) (hne : g ≠ gr) (hg0 : w0.heap.size ≤ g) (hgs : gr < w.heap.size)
    (hv : ∀ x ∈ xs, x < 256) (hl : xs.length ≤ 16777216) (hk : k ≤ 65536) :
    Calls Tryz.prog 141 #[.pointer (some ⟨g, 0, none⟩), .pointer (some ⟨gr, 0, none⟩)] w fun e w' =>
      e = .returned (.bool (outRuns_S wd k xs s).b) ∧ OutAt_S w0 w w' w.heap.size g gr rows codec wd k nulls kind_S bef base (outRuns_S wd k xs s) := by
  have hU := U32_any w0 w gr xs s hr hv hl
  have hd32 : L.wordOf 8 (tk 4 xs) < 4294967296 := wordOf4_lt _ (tk_lt hv) (tk_le 4 xs)
  obtain ⟨O, hO⟩ : ∃ O, outRuns_S wd k xs s = O := ⟨_, rfl⟩
  have HO := hid hO
  unfold outRuns_S at HO
  rw [hO]
  clear hO
  obtain ⟨d, hd⟩ : ∃ d, L.wordOf 8 (tk 4 xs) = d := ⟨_, rfl⟩
  obtain ⟨xs1, hx1⟩ : ∃ xs1, tkL 4 xs = xs1 := ⟨_, rfl⟩
  obtain ⟨s1, hs1⟩ : ∃ s1, tkS 4 xs s = s1 := ⟨_, rfl⟩
  have hxl1 : xs1.length ≤ 16777216 := by rw [← hx1]; exact Nat.le_trans (tkL_le _ _) hl
  have hxv1 : ∀ x ∈ xs1, x < 256 := by rw [← hx1]; exact tkL_lt hv
  rw [hd, hx1, hs1] at hU HO
  rw [hd] at hd32
  obtain ⟨es, hes⟩ : ∃ es, numL 4 (tk (4 * d) xs1) = es := ⟨_, rfl⟩
  obtain ⟨xs2, hx2⟩ : ∃ xs2, tkL (4 * d) xs1 = xs2 := ⟨_, rfl⟩
  obtain ⟨s2, hs2⟩ : ∃ s2, tkS (4 * d) xs1 s1 = s2 := ⟨_, rfl⟩
  have hxl2 : xs2.length ≤ 16777216 := by rw [← hx2]; exact Nat.le_trans (tkL_le _ _) hxl1
  have hxv2 : ∀ x ∈ xs2, x < 256 := by rw [← hx2]; exact tkL_lt hxv1
  have hel : es.length ≤ 16777216 := by
    rw [← hes, numL_length]; unfold tk; split
    · rw [List.length_take]; omega
    · simp
  rw [hes, hx2, hs2] at HO
  have HUS := hid (fun (w2 : World) (h2 : RdrAt w0 w2 gr xs1 s1) (hg2 : gr < w2.heap.size) => U32s_any w0 w2 gr xs1 s1 d h2 hg2 hxv1 hxl1 (by omega))
  rw [hes, hx2, hs2] at HUS
  have HU := hid hU
  have HC := hid hc
  have hgw : g < w.heap.size := hc.lt
  clear hU hc hr hd hx1 hs1 hes hx2 hs2 hv hl
  obtain ⟨B, hB⟩ : ∃ B, w.heap.size = B := ⟨_, rfl⟩
  have HB := hid hB
  rw [hB]
  clear hB
  have hm := m_readList_S
  have hgB : g < B := by have := HB.out; omega
  have hrB : gr < B := by have := HB.out; omega
  go_enter Tryz.func141, Tryz.ntmps141
  go_upto_region 2 with (first | (go_at_call 183; refine HU.out.mono ?_; rintro e w1 ⟨rfl, ha1, hc1⟩; have HA1 := hid ha1; have HC1 := hid (Chg.wide' (a := g) hc1); have HCK1 := hid (hc1.row HC.out hne hne); clear ha1 hc1))
  have hgr1 : gr < w1.heap.size := Nat.lt_of_lt_of_le hgs HC1.out.size
  have hB1 : B ≤ w1.heap.size := by have := HB.out; have := HC1.out.size; omega
  clear HU HC
  go_wp2_with fail
  refine (HUS.out w1 HA1.out hgr1).mono ?_
  rintro e w2 ⟨p, hp, rfl, hrow2, ha2, hc2⟩
  have hpB : B ≤ p := Nat.le_trans hB1 hp
  have hpg : p ≠ g := by omega
  have hpr : p ≠ gr := by omega
  have HCK2 := hid (hc2.row HCK1.out hne hne)
  have e6 : w2.cell? ⟨g, 0 + 6, none⟩ = some nilS := by rw [HCK2.out.cell]; rfl
  have f6 := HCK2.out.frozen (0 + 6)
  have hch := (Chg.refl g g w2).setCell g 6 (.slice (some ⟨p, 0, none⟩) es.length es.length) (.inl rfl)
  have HCK3 : Hid (Row (w2.setCell ⟨g, 6, none⟩ (.slice (some ⟨p, 0, none⟩) es.length es.length)) g 94 (ck_S rows codec wd nulls k nilS (.slice (some ⟨p, 0, none⟩) es.length es.length) base nilS kind_S bef)) := hid (HCK2.out.set 6 _)
  have HR3 := hid (hch.row hrow2 hpg hpg)
  have HA3 := hid (ha2.chg hch (Ne.symm hne) (Ne.symm hne) hg0 hg0)
  have HC3 := hid ((HC1.out.trans (Chg.wide' (a := g) hc2)).setCell g 6 (.slice (some ⟨p, 0, none⟩) es.length es.length) (.inl rfl))
  have hgr3 : gr < (w2.setCell ⟨g, 6, none⟩ (.slice (some ⟨p, 0, none⟩) es.length es.length)).heap.size := Nat.lt_of_lt_of_le hgs HC3.out.size
  have hB3 : B ≤ (w2.setCell ⟨g, 6, none⟩ (.slice (some ⟨p, 0, none⟩) es.length es.length)).heap.size := Nat.le_trans hB1 (Nat.le_trans hc2.size hch.size)
  clear hrow2 ha2 hc2 HA1 HC1 HCK1 HCK2 hch hgr1 hB1 HUS hp
  go_upto_region 3 with fail
  clear e6 f6
  generalize w2.setCell ⟨g, 6, none⟩ (.slice (some ⟨p, 0, none⟩) es.length es.length) = w3 at *
  have HOE := hid (HR3.out.owns (B := B) (n := es.length) hpB (by simp [i64s, nI]) (by unfold maxLen; omega))
  have HFAIL : Hid (∀ n, OutAt_S w0 w (w3.drewN n) B g gr rows codec wd k nulls kind_S bef base { b := false, left := xs2, short := s2, list := [], ends := es, lanes := [] }) := hid (fun n =>
    ⟨⟨_, _, _, HCK3.out.drewN n, World.ownsRow_nil _ _ _ _, owns_below HOE.out (bdrew (brefl w3) n), World.ownsRow_nil _ _ _ _⟩, HA3.out.mono (bdrew (brefl w3) n), HC3.out.drewN n⟩)
  have e2 : w3.cell? ⟨g, 2, none⟩ = some (.int .i64 wd) := by rw [HCK3.out.cell]; rfl
  have e4 : w3.cell? ⟨g, 4, none⟩ = some (.int .i64 k) := by rw [HCK3.out.cell]; rfl
  have e6 : w3.cell? ⟨g, 6, none⟩ = some (.slice (some ⟨p, 0, none⟩) es.length es.length) := by rw [HCK3.out.cell]; rfl
  have HEN := hid (fun nd : Nat => areRunEnds_any (.slice (some ⟨p, 0, none⟩) es.length es.length) (nI es) k (w3.drewN nd) (by rw [nI_length]; exact ((HR3.out.drewN nd).rd' (n := es.length) (by simp [i64s, nI]) (by unfold maxLen; omega))) (by rw [nI_length]; unfold maxLen; omega))
  obtain ⟨re, hre⟩ : ∃ re, runEnds (nI es) k = re := ⟨_, rfl⟩
  rw [hre] at HEN HO
  clear hre
  by_cases hw : wd = 0
  case neg =>
    have hO : O = { b := false, left := xs2, short := s2, list := [], ends := es, lanes := [] } := by rw [← HO.out, if_pos (.inl hw)]
    subst hO
    have hw1 : (wd != 0) = true := by rw [bne_iff_ne]; exact hw
    go_wp2_with fail
    go_quiet (fail)
    go_wp2_with fail
    go_ret
    exact ⟨rfl, HFAIL.out _⟩
  case pos =>
    have hw1 : (wd != 0) = false := by rw [hw]; rfl
    cases re
    case false =>
      have hO : O = { b := false, left := xs2, short := s2, list := [], ends := es, lanes := [] } := by rw [← HO.out, if_pos (.inr rfl)]
      subst hO
      clear hw
      go_wp2_with fail
      go_quiet (first | (go_at_call 188; refine Calls.quiet_of_same (HEN.out _)))
      go_wp2_with fail
      go_ret
      exact ⟨rfl, HFAIL.out _⟩
    case true =>
      have hO2 := HO.out
      rw [if_neg (fun h => h.elim (fun h => h hw) (fun h => by cases h))] at hO2
      obtain ⟨vals, ok, xl, s4, hR⟩ : ∃ vals ok xl s4, rdS d xs2 s2 = (vals, ok, xl, s4) := ⟨_, _, _, _, rfl⟩
      rw [hR] at hO2
      simp only at hO2
      have hvl : vals.length ≤ 16777216 := by have := rd_len_S d xs2 s2 hxl2; rw [hR] at this; exact this
      have HO2 := hid hO2
      have HRL := hid (fun (w2 : World) (h : RdrAt w0 w2 gr xs2 s2) (h2 : gr < w2.heap.size) => readListS_any w0 w2 gr xs2 s2 d h h2 hxv2 hxl2 (by omega))
      rw [hR] at HRL
      clear hO2 hR hw HO HFAIL
      go_wp2_with fail
      go_quiet (first | (go_at_call 188; refine Calls.quiet_of_same (HEN.out _)))
      have HA4 := hid (HA3.out.mono (bdrew (brefl w3) nq))
      have HC4 := hid (HC3.out.drewN nq)
      have HCK4 := hid (HCK3.out.drewN nq)
      have HOE4 := hid (owns_below HOE.out (bdrew (brefl w3) nq))
      have hgr4 : gr < (w3.drewN nq).heap.size := hgr3
      have hB4 : B ≤ (w3.drewN nq).heap.size := hB3
      clear HA3 HC3 HCK3 HOE HR3 e2 e4 e6 HEN hgr3 hB3
      generalize w3.drewN nq = w4 at *
      have d9 : w4.cell? ⟨g, 0 + 9, none⟩ = some (.iface 66 (.agg #[])) := by rw [HCK4.out.cell]; rfl
      go_wp2_with fail
      refine (HRL.out w4 HA4.out hgr4).mono ?_
      rintro e w5 ⟨v3, rfl, ho3, ha3, hc3⟩
      obtain ⟨A3, c3, rfl, hcc3, _, _, _⟩ := owns_form ho3
      have HO5 := hid (owns_mono_S ho3 hB4)
      have HA5 := hid ha3
      have HC5 := hid (HC4.out.trans (Chg.wide' (a := g) hc3))
      have HCK5 := hid (hc3.row HCK4.out hne hne)
      have HOE5 := hid (owns_chg HOE4.out hc3 hrB hrB)
      have e5 : w5.cell? ⟨g, 0 + 5, none⟩ = some nilS := by rw [HCK5.out.cell]; rfl
      have f5 := HCK5.out.frozen (0 + 5)
      have hch6 := (Chg.refl g g w5).setCell g 5 (.slice A3 vals.length c3) (.inl rfl)
      have HCK6 : Hid (Row (w5.setCell ⟨g, 5, none⟩ (.slice A3 vals.length c3)) g 94 (ck_S rows codec wd nulls k (.slice A3 vals.length c3) (.slice (some ⟨p, 0, none⟩) es.length es.length) base nilS kind_S bef)) := hid (HCK5.out.set 5 _)
      have HO6 := hid (owns_chg HO5.out hch6 hgB hgB)
      have HOE6 := hid (owns_chg HOE5.out hch6 hgB hgB)
      have HA6 := hid (HA5.out.chg hch6 (Ne.symm hne) (Ne.symm hne) hg0 hg0)
      have HC6 := hid (HC5.out.setCell g 5 (.slice A3 vals.length c3) (.inl rfl))
      clear ho3 ha3 hc3 hcc3 HA4 HC4 HCK4 HOE4 d9 HRL HO5 HA5 HC5 HCK5 HOE5 hch6 hm hgr4 hB4
      go_upto_region 7 with fail
      clear e5 f5
      generalize w5.setCell ⟨g, 5, none⟩ (.slice A3 vals.length c3) = w6 at *
      have HDF := hid (differS_any _ vals w6 (owns_rd HO6.out) (by unfold maxLen; omega))
      have HO7 := hid (fun (n : Nat) (b : Bool) => (⟨⟨_, _, _, HCK6.out.drewN n, owns_below HO6.out (bdrew (brefl w6) n), owns_below HOE6.out (bdrew (brefl w6) n), World.ownsRow_nil _ _ _ _⟩, HA6.out.mono (bdrew (brefl w6) n), HC6.out.drewN n⟩ : OutAt_S w0 w (w6.drewN n) B g gr rows codec wd k nulls kind_S bef base { b := b, left := xl, short := s4, list := vals, ends := es, lanes := [] }))
      obtain ⟨df, hdf⟩ : ∃ df, noPair eqS vals = df := ⟨_, rfl⟩
      rw [hdf] at HDF HO2
      clear hdf
      have hO := HO2.out
      subst hO
      clear HO2
      cases ok
      case' false =>
        go_wp2_with fail
        go_ret
        exact ⟨rfl, HO7.out 0 _⟩
      case' true =>
        go_wp2_with (go_at_call 189; refine HDF.out.mono ?_; rintro e w7 ⟨rfl, n7, rfl⟩)
        go_ret
        exact ⟨rfl, HO7.out _ _⟩
end Go.Proofs.YthonbfojpbfmgaaGreatDoor

/- Package chunk: offsets and whole payloads of integers off the reader. -/
set_option linter.unusedVariables false
set_option linter.unusedSimpArgs false
set_option linter.unnecessarySimpa false
set_option maxRecDepth 100000
namespace Go.Proofs.YthonbfojpbfmgaaGreatDoor
open Go.RowKit

def outPay_S (codec : Nat) (wd : Int) (k : Nat) (xs : List Nat) (s : Bool) : Out_S :=
  if codec = 1 then outPlain_S wd k xs s else if codec = 2 then outDict_S wd k xs s else outRuns_S wd k xs s

set_option maxHeartbeats 8000000 in
theorem readPayload_S (w0 w : World) (g gr : Nat) (xs : List Nat) (s : Bool) (rows wd : Int) (codec k : Nat) (nulls bef : Value) (hT : Tab w0)
    (hc : Row w g 94 (ck_S rows codec wd nulls k nilS nilS 0 nilS kind_S bef)) (hr : RdrAt w0 w gr xs s) (hne : g ≠ gr) (hg0 : w0.heap.size ≤ g) (hgs : gr < w.heap.size)
    (hv : ∀ x ∈ xs, x < 256) (hl : xs.length ≤ 16777216) (hk : k ≤ 65536) (hcd : 1 ≤ codec ∧ codec ≤ 3) :
    Calls Tryz.prog 82 #[.pointer (some ⟨g, 0, none⟩), .pointer (some ⟨gr, 0, none⟩)] w fun e w' =>
      e = .returned (.bool (outPay_S codec wd k xs s).b) ∧ OutAt_S w0 w w' w.heap.size g gr rows codec wd k nulls kind_S bef 0 (outPay_S codec wd k xs s) := by
  have c1 : w.cell? ⟨g, 0 + 1, none⟩ = some (.int .i64 codec) := by rw [hc.cell]; rfl
  obtain ⟨O, hO⟩ : ∃ O, outPay_S codec wd k xs s = O := ⟨_, rfl⟩
  rw [hO]
  have HO := hid hO
  have HC := hid hc
  clear hO
  by_cases h1 : codec = 1
  · subst h1
    obtain rfl : outPlain_S wd k xs s = O := by rw [← HO.out]; rfl
    have HP := hid (readPlain_S w0 w g gr xs s rows _ wd k nulls bef 0 hc hr hne hg0 hgs hv hl hk)
    generalize outPlain_S wd k xs s = O at *
    clear hc hr hv hT
    go_enter Tryz.func82, Tryz.ntmps82
    go_wp2_with (go_at_call 139; refine HP.out.mono ?_; rintro e w1 ⟨rfl, h⟩; have H := hid h; clear h)
    go_ret
    exact ⟨rfl, H.out⟩
  by_cases h2 : codec = 2
  · subst h2
    obtain rfl : outDict_S wd k xs s = O := by rw [← HO.out]; rfl
    have HP := hid (readDict_S w0 w g gr xs s rows _ wd k nulls bef 0 hT hc hr hne hg0 hgs hv hl hk)
    generalize outDict_S wd k xs s = O at *
    clear hc hr hv hT
    go_enter Tryz.func82, Tryz.ntmps82
    go_wp2_with (go_at_call 140; refine HP.out.mono ?_; rintro e w1 ⟨rfl, h⟩; have H := hid h; clear h)
    go_ret
    exact ⟨rfl, H.out⟩
  · obtain rfl : codec = 3 := by omega
    obtain rfl : outRuns_S wd k xs s = O := by rw [← HO.out]; rfl
    have HP := hid (readRuns_S w0 w g gr xs s rows _ wd k nulls bef 0 hc hr hne hg0 hgs hv hl hk)
    generalize outRuns_S wd k xs s = O at *
    clear hc hr hv hT
    go_enter Tryz.func82, Tryz.ntmps82
    go_wp2_with (go_at_call 141; refine HP.out.mono ?_; rintro e w1 ⟨rfl, h⟩; have H := hid h; clear h)
    go_ret
    exact ⟨rfl, H.out⟩
end Go.Proofs.YthonbfojpbfmgaaGreatDoor
