/- Package chunk: the parts of a payload off the reader. -/
import Derived.Test.YtdlkdiaobbakiaaGreatDoorLaneS
import Derived.Test.YtdlkdiaobbakiaaGreatDoorLan
import Derived.Deep.CutRange
import Derived.Deep.RegionHeld3
set_option linter.unusedVariables false
set_option linter.unusedSimpArgs false
set_option linter.unnecessarySimpa false
set_option maxRecDepth 100000
namespace Go.Proofs.YtdlkdiaobbakiaaGreatDoor
open Go.RowKit

set_option maxHeartbeats 4000000 in
theorem readLanes_S (w0 w : World) (g gr : Nat) (xs : List Nat) (s : Bool) (rows codec wd k : Int) (nulls list ends lanes kind bef : Value) (base op : Int) (lim : Nat)
    (hT : Tab w0) (hc : Row w g 74 (ck_S rows codec wd nulls k list ends base lanes kind bef)) (hr : RdrAt w0 w gr xs s) (hne : g ≠ gr) (hg0 : w0.heap.size ≤ g) (hgs : gr < w.heap.size)
    (hv : ∀ x ∈ xs, x < 256) (hl : xs.length ≤ 1048576) (hlim : lim < 18446744073709551616) :
    Calls Tryz.prog 133 #[.pointer (some ⟨g, 0, none⟩), .pointer (some ⟨gr, 0, none⟩), .int .i64 op, .int .u64 lim] w fun e w' =>
      e = .returned (.bool (lanesB wd k op (restW xs) lim)) ∧ ∃ v, Row w' g 74 (ck_S rows codec wd nulls k list ends base v kind bef) ∧
        w'.ownsRow w.heap.size 68 1 v (restW xs).length (u64s (restW xs)) ∧ RdrAt w0 w' gr (tkL (8 * (xs.length / 8)) xs) (tkS (8 * (xs.length / 8)) xs s) ∧ Chg g gr w w' := by
  obtain ⟨ws, hws⟩ : ∃ ws, restW xs = ws := ⟨_, rfl⟩
  have hwv : ∀ x ∈ ws, x < 18446744073709551616 := by rw [← hws]; exact numL_lt (tk_lt hv) (by omega)
  have hwl : ws.length ≤ 131072 := by rw [← hws, restW_len]; omega
  obtain ⟨c, hcc⟩ : ∃ c, xs.length / 8 = c := ⟨_, rfl⟩
  obtain ⟨xl, hxl⟩ : ∃ xl, tkL (8 * c) xs = xl := ⟨_, rfl⟩
  obtain ⟨s1, hs1⟩ : ∃ s1, tkS (8 * c) xs s = s1 := ⟨_, rfl⟩
  have hU := U64s_any w0 w gr xs s c hr hgs hv hl (by omega)
  have hwc : numL 8 (tk (8 * c) xs) = ws := by rw [← hws, ← hcc]; rfl
  rw [hwc, hxl, hs1] at hU
  rw [hws, hcc, hxl, hs1]
  have HU := hid hU
  have HLEFT := hid (Left_any w0 w gr xs s hr hl)
  have hce : (xs.length : Int) / 8 = (c : Int) := by omega
  have HC := hid hc
  have HR := hid hr
  have HT := hid hT
  have HTL := hid hT.lt
  have hgw : g < w.heap.size := hc.lt
  obtain ⟨B, hB⟩ : ∃ B, w.heap.size = B := ⟨_, rfl⟩
  have HB := hid hB
  rw [hB]
  obtain ⟨wr, hwr⟩ : ∃ wr, cmpR wd k op ws lim = wr := ⟨_, rfl⟩
  obtain ⟨ok, hok⟩ : ∃ ok, cmpOk wd k op ws = ok := ⟨_, rfl⟩
  have hwrl : wr.length ≤ maxLen := by rw [← hwr]; have := cmpR_len wd k op ws lim; unfold maxLen; omega
  have hwrv : ∀ x ∈ wr, x < 18446744073709551616 := by rw [← hwr]; exact cmpR_lt wd k op ws lim
  have eB : lanesB wd k op ws lim = (ok && (rankR k k wr == 0)) := by rw [lanesB, hwr, hok]
  rw [eB]
  have HCMP := hid (fun (w2 : World) (v : Value) (h1 : Tab w2) (h2 : Rd w2 v ws.length 1 (u64s ws)) => Compare_any v ws wd k op lim w2 h1 h2 hwv hlim (by unfold maxLen; omega))
  rw [hwr, hok] at HCMP
  obtain ⟨rk, hrk⟩ : ∃ rk, rankR k k wr = rk := ⟨_, rfl⟩
  have HRANK := hid (fun (w2 : World) (v : Value) (h2 : Rd w2 v wr.length 1 (u64s wr)) => Rank_any v wr k k w2 h2 hwrv hwrl)
  rw [hrk] at HRANK ⊢
  clear hws hwc hxl hs1 hcc hU hc hr hT hB hwr hok eB hrk hv hwv
  go_enter Tryz.func133, Tryz.ntmps133
  go_upto_region 2 with (first
    | (go_at_call 73; refine HLEFT.out.mono ?_; rintro e w1 ⟨rfl, hw⟩; replace hw := hw.symm; subst hw)
    | (go_at_call 68; refine HU.out.mono ?_; rintro e w1 ⟨p, hp, rfl, hrow, hat, hch⟩; have HP := hid hp; have HROW := hid hrow; have HAT := hid hat; have HCH := hid hch; have HCK := hid (hch.row HC.out hne hne); have c8 : w1.cell? ⟨g, 0 + 8, none⟩ = some lanes := (by rw [HCK.out.cell]; rfl); have f8 := HCK.out.frozen (0 + 8); clear hp hrow hat hch))
  have HCK2 : Hid (Row (w1.setCell ⟨g, 8, none⟩ (.slice (some ⟨p, 0, none⟩) ws.length ws.length)) g 74 (ck_S rows codec wd nulls k list ends base (.slice (some ⟨p, 0, none⟩) ws.length ws.length) kind bef)) := hid (HCK.out.set 8 _)
  have HS := hid ((Chg.refl g gr w1).setCell g 8 (.slice (some ⟨p, 0, none⟩) ws.length ws.length) (.inl rfl))
  have hpB : B ≤ p := by have := HP.out; have := HB.out; omega
  have hpg : p ≠ g := by have := HB.out; omega
  have hpgr : p ≠ gr := by have := HB.out; omega
  have HAT2 := hid (HAT.out.chg ((Chg.refl g g w1).setCell g 8 (.slice (some ⟨p, 0, none⟩) ws.length ws.length) (.inl rfl)) (Ne.symm hne) (Ne.symm hne) hg0 hg0)
  have HROW2 := hid (HS.out.row HROW.out hpg hpgr)
  have HCH2 := hid ((Chg.wide' (a := g) HCH.out).trans HS.out)
  clear HCK HROW HAT HS HC HR HLEFT HU
  generalize w1.setCell ⟨g, 8, none⟩ (.slice (some ⟨p, 0, none⟩) ws.length ws.length) = w2 at *
  have hT2 : Hid (Tab w2) := hid (HT.out.mono HAT2.out.2.1 HTL.out)
  have HRD2 := hid (HROW2.out.rd' (n := ws.length) (by simp [u64s]) (by unfold maxLen; omega))
  have d8 : w2.cell? ⟨g, 0 + 8, none⟩ = some (.slice (some ⟨p, 0, none⟩) ws.length ws.length) := by rw [HCK2.out.cell]; rfl
  have d2 : w2.cell? ⟨g, 0 + 2, none⟩ = some (.int .i64 wd) := by rw [HCK2.out.cell]; rfl
  have d4 : w2.cell? ⟨g, 0 + 4, none⟩ = some (.int .i64 k) := by rw [HCK2.out.cell]; rfl
  have HC3 := hid (fun nd : Nat => HCMP.out (w2.drewN nd) _ (hT2.out.mono (bdrew (brefl w2) nd) hT2.out.lt) (HRD2.out.mono (bdrew (brefl w2) nd)))
  clear c8 f8 HCMP
  have d8' : w2.cell? ⟨g, 8, none⟩ = some (.slice (some ⟨p, 0, none⟩) ws.length ws.length) := by rw [HCK2.out.cell]; rfl
  have d2' : w2.cell? ⟨g, 2, none⟩ = some (.int .i64 wd) := by rw [HCK2.out.cell]; rfl
  have d4' : w2.cell? ⟨g, 4, none⟩ = some (.int .i64 k) := by rw [HCK2.out.cell]; rfl
  clear d8 d2 d4
  have hgw2 : g < w2.heap.size := HCK2.out.lt
  go_cut [9, 10] from 11 (fun s9 s10 wc => s10 = .bool ok ∧ Hid (Rd wc s9 wr.length 1 (u64s wr)) ∧ Hid (Below w2.heap.size w2 wc))
  case first =>
    go_region_held3 (fun w' => w'.cell? ⟨g, 8, none⟩ = some (.slice (some ⟨p, 0, none⟩) ws.length ws.length) ∧ w'.cell? ⟨g, 2, none⟩ = some (.int .i64 wd) ∧ w'.cell? ⟨g, 4, none⟩ = some (.int .i64 k)) (go_keep)
      (first | (go_at_call 156; refine (HC3.out 1).mono ?_; rintro e w3 ⟨r3, rfl, ho3, hb3⟩; have HO3 := hid ho3; have HB3 := hid hb3; obtain ⟨A3, c3, rfl, hc3, _, _, _⟩ := owns_form ho3; have k8 := (hb3.cell (p := ⟨g, 8, none⟩) hgw2).trans d8'; have k2 := (hb3.cell (p := ⟨g, 2, none⟩) hgw2).trans d2'; have k4 := (hb3.cell (p := ⟨g, 4, none⟩) hgw2).trans d4'; clear ho3 hb3 hc3))
    all_goals (go_wp2_with fail; go_meet)
    all_goals exact ⟨rfl, hid (owns_rd HO3.out), hid ((bdrew (brefl w2) _).trans HB3.out)⟩
  case rest =>
    obtain ⟨rfl, HW9, HB9⟩ := hcut
    have HCK3 : Hid (Row wc g 74 (ck_S rows codec wd nulls k list ends base (.slice (some ⟨p, 0, none⟩) ws.length ws.length) kind bef)) := hid (HCK2.out.mono HB9.out)
    have e4 : wc.cell? ⟨g, 4, none⟩ = some (.int .i64 k) := by rw [HCK3.out.cell]; rfl
    have HRK := hid (fun nd : Nat => HRANK.out (wc.drewN nd) _ (HW9.out.mono (bdrew (brefl wc) nd)))
    have HROW3 := hid (HROW2.out.mono HB9.out)
    have HAT3 := hid (HAT2.out.mono HB9.out)
    have HCH3 := hid (HCH2.out.then_below HB9.out HCH2.out.size)
    clear HCK2 HROW2 HAT2 HCH2 HB9 d8' d2' d4' HC3 HRANK HW9 HRD2 hT2
    cases ok
    case' false =>
      go_wp2_with fail
      go_quiet (fail)
    case' true =>
      go_wp2_with fail
      go_quiet (first | (go_at_call 69; refine Calls.quiet_of (HRK.out _)))
    all_goals go_wp2_with fail
    all_goals go_ret
    all_goals exact ⟨rfl, _, HCK3.out.drewN nq, (HROW3.out.drewN nq).owns hpB (by simp [u64s]) (by unfold maxLen; omega), HAT3.out.mono (bdrew (brefl wc) nq), HCH3.out.drewN nq⟩

theorem m_readList_S : ∀ w : World, (method 329 44 (.agg #[]) "colscan/chunk.readList").run Tryz.prog w = .ok (219, .agg #[]) w := fun _ => by kernel_rfl
/-- what reading a payload off the reader leaves -/
structure Out_S where
  b : Bool
  left : List Nat
  short : Bool
  list : List ByteArray
  ends : List Nat
  lanes : List Nat
/-- .. as memory has it -/
structure OutAt_S (w0 w w' : World) (B g gr : Nat) (rows codec wd k : Int) (nulls kind bef : Value) (base : Int) (o : Out_S) : Prop where
  ck : ∃ lv ev nv, Row w' g 74 (ck_S rows codec wd nulls k lv ev base nv kind bef) ∧ w'.ownsRow B 9 1 lv o.list.length (strs o.list) ∧
    w'.ownsRow B 3 1 ev o.ends.length (nIs o.ends) ∧ w'.ownsRow B 68 1 nv o.lanes.length (u64s o.lanes)
  rdr : RdrAt w0 w' gr o.left o.short
  chg : Chg g gr w w'
def kind_S : Value := .iface 44 (.agg #[])

def outPlain_S (wd : Int) (k : Nat) (xs : List Nat) (s : Bool) : Out_S :=
  { b := (rdS k xs s).2.1 && decide (wd = 0), left := (rdS k xs s).2.2.1, short := (rdS k xs s).2.2.2, list := (rdS k xs s).1, ends := [], lanes := [] }

set_option maxHeartbeats 4000000 in
theorem readPlain_S (w0 w : World) (g gr : Nat) (xs : List Nat) (s : Bool) (rows codec wd : Int) (k : Nat) (nulls bef : Value) (base : Int)
    (hc : Row w g 74 (ck_S rows codec wd nulls k nilS nilS base nilS kind_S bef)) (hr : RdrAt w0 w gr xs s) (hne : g ≠ gr) (hg0 : w0.heap.size ≤ g) (hgs : gr < w.heap.size)
    (hv : ∀ x ∈ xs, x < 256) (hl : xs.length ≤ 1048576) (hk : k ≤ 65536) :
    Calls Tryz.prog 97 #[.pointer (some ⟨g, 0, none⟩), .pointer (some ⟨gr, 0, none⟩)] w fun e w' =>
      e = .returned (.bool (outPlain_S wd k xs s).b) ∧ OutAt_S w0 w w' w.heap.size g gr rows codec wd k nulls kind_S bef base (outPlain_S wd k xs s) := by
  have HC := hid hc
  have HR := hid hr
  have HRL := hid (fun nd : Nat => readListS_any w0 (w.drewN nd) gr xs s k (hr.mono (bdrew (brefl w) nd)) hgs hv hl (by omega))
  have d9 : w.cell? ⟨g, 9, none⟩ = some (.iface 44 (.agg #[])) := by rw [hc.cell]; rfl
  have d4 : w.cell? ⟨g, 4, none⟩ = some (.int .i64 k) := by rw [hc.cell]; rfl
  have hgw : g < w.heap.size := hc.lt
  obtain ⟨vals, b, xl, s1, hR⟩ : ∃ vals b xl s1, rdS k xs s = (vals, b, xl, s1) := ⟨_, _, _, _, rfl⟩
  have eO : outPlain_S wd k xs s = { b := b && decide (wd = 0), left := xl, short := s1, list := vals, ends := [], lanes := [] } := by unfold outPlain_S; rw [hR]
  rw [eO]
  rw [hR] at HRL
  clear hc hr hv eO hR
  obtain ⟨B, hB⟩ : ∃ B, w.heap.size = B := ⟨_, rfl⟩
  have HB := hid hB
  rw [hB]
  clear hB
  have hm := m_readList_S
  go_enter Tryz.func97, Tryz.ntmps97
  go_upto_region 1 with fail
  go_cut [5, 6] from 7 (fun s5 s6 wc => ∃ A c, s5 = .slice A vals.length c ∧ s6 = .bool b ∧ Hid (wc.ownsRow B 9 1 (.slice A vals.length c) vals.length (strs vals)) ∧ Hid (RdrAt w0 wc gr xl s1) ∧ Hid (Chg g gr w wc) ∧ Hid (Row wc g 74 (ck_S rows codec wd nulls k nilS nilS base nilS kind_S bef)))
  case first =>
    go_region_held3 (fun w' => w'.cell? ⟨g, 9, none⟩ = some (.iface 44 (.agg #[])) ∧ w'.cell? ⟨g, 4, none⟩ = some (.int .i64 k)) (go_keep)
      (first | (go_at_call 219; refine (HRL.out 1).mono ?_; rintro e w3 ⟨v3, rfl, ho3, ha3, hc3⟩; have k9 := (hc3.cell g 9 hgw hne hne).trans d9; have k4 := (hc3.cell g 4 hgw hne hne).trans d4; have HO3 := hid ho3; have HA3 := hid ha3; have HC3 := hid (Chg.wide' (a := g) hc3); have HCK3 := hid (hc3.row (HC.out.drewN 1) hne hne); obtain ⟨A3, c3, rfl, hcc3, _, _, _⟩ := owns_form ho3; clear ho3 ha3 hc3 hcc3))
    all_goals (go_wp2_with fail; go_meet)
    all_goals exact ⟨_, _, rfl, rfl, hid (by rw [← HB.out]; exact HO3.out), HA3, hid (((Chg.refl g gr w).drewN 1).trans HC3.out), HCK3⟩
  case rest =>
    obtain ⟨A3, c3, rfl, rfl, HO3, HA3, HC3, HCK3⟩ := hcut
    have e5 : wc.cell? ⟨g, 0 + 5, none⟩ = some nilS := by rw [HCK3.out.cell]; rfl
    have e2 : wc.cell? ⟨g, 0 + 2, none⟩ = some (.int .i64 wd) := by rw [HCK3.out.cell]; rfl
    have f5 := HCK3.out.frozen (0 + 5)
    have hFIN : ∀ bb : Bool, OutAt_S w0 w (wc.setCell ⟨g, 5, none⟩ (.slice A3 vals.length c3)) B g gr rows codec wd k nulls kind_S bef base { b := bb, left := xl, short := s1, list := vals, ends := [], lanes := [] } := by
      intro bb
      have hch := (Chg.refl g g wc).setCell g 5 (.slice A3 vals.length c3) (.inl rfl)
      have hgB : g < B := by have := HB.out; omega
      exact ⟨⟨_, _, _, HCK3.out.set 5 _, owns_chg HO3.out hch hgB hgB, World.ownsRow_nil _ _ _ _, World.ownsRow_nil _ _ _ _⟩, HA3.out.chg hch (Ne.symm hne) (Ne.symm hne) hg0 hg0, HC3.out.setCell g 5 _ (.inl rfl)⟩
    have HFIN := hid hFIN
    clear hFIN HC HR HRL d9 d4 hm
    cases b
    case' false => go_wp2
    case' true => go_wp2
    all_goals go_ret
    all_goals exact ⟨by by_cases h : wd = 0 <;> simp [h], HFIN.out _⟩
end Go.Proofs.YtdlkdiaobbakiaaGreatDoor
