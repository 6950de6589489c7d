/- Package chunk: dictionaries, runs, offsets and whole payloads off the reader. -/
import Derived.Test.YtdlkdiaobbakiaaGreatDoorPayI
set_option linter.unusedVariables false
set_option linter.unusedSimpArgs false
set_option linter.unnecessarySimpa false
set_option maxRecDepth 100000
namespace Go.Proofs.YtdlkdiaobbakiaaGreatDoor
open Go.RowKit

theorem owns_mono_I {w : World} {B C : Nat} {e : TypeId} {v : Value} {n : Nat} {cs : List Value} (h : w.ownsRow B e 1 v n cs) (hC : C ≤ B) : w.ownsRow C e 1 v n cs := by
  refine ⟨h.1, ?_⟩
  rcases h.2 with hn | ⟨g, cap, cur, rfl, hb', hg, r⟩
  · exact .inl hn
  · exact .inr ⟨g, cap, cur, rfl, Nat.le_trans hC hb', hg, r⟩
def outDict_I (wd : Int) (k : Nat) (xs : List Nat) (s : Bool) : Out_I :=
  if 256 < L.wordOf 8 (tk 4 xs) ∨ wd ≠ (needN (L.wordOf 8 (tk 4 xs)) : Int) then { b := false, left := tkL 4 xs, short := tkS 4 xs s, list := [], ends := [], lanes := [] }
  else match rdI (L.wordOf 8 (tk 4 xs)) (tkL 4 xs) (tkS 4 xs s) with
    | (vals, ok, xl, s1) =>
      if (ok && noPair geI vals) = true then { b := lanesB wd k 6 (restW xl) (L.wordOf 8 (tk 4 xs)), left := tkL (8 * (xl.length / 8)) xl, short := tkS (8 * (xl.length / 8)) xl s1, list := vals, ends := [], lanes := restW xl }
      else { b := false, left := xl, short := s1, list := vals, ends := [], lanes := [] }

set_option maxHeartbeats 8000000 in
theorem readDict_I (w0 w : World) (g gr : Nat) (xs : List Nat) (s : Bool) (rows codec wd : Int) (k : Nat) (nulls bef : Value) (base : Int) (hT : Tab w0)
    (hc : Row w g 82 (ck_I rows codec wd nulls k nilS nilS base nilS kind_I bef)) (hr : RdrAt w0 w gr xs s) (hne : g ≠ gr) (hg0 : w0.heap.size ≤ g) (hgs : gr < w.heap.size)
    (hv : ∀ x ∈ xs, x < 256) (hl : xs.length ≤ 1048576) (hk : k ≤ 65536) :
    Calls Tryz.prog 105 #[.pointer (some ⟨g, 0, none⟩), .pointer (some ⟨gr, 0, none⟩)] w fun e w' =>
      e = .returned (.bool (outDict_I wd k xs s).b) ∧ OutAt_I w0 w w' w.heap.size g gr rows codec wd k nulls kind_I bef base (outDict_I wd k xs s) := by
  have hU := U32_any w0 w gr xs s hr hv hl
  have hd32 : L.wordOf 8 (tk 4 xs) < 4294967296 := wordOf4_lt _ (tk_lt hv) (tk_le 4 xs)
  obtain ⟨d, hd⟩ : ∃ d, L.wordOf 8 (tk 4 xs) = d := ⟨_, rfl⟩
  obtain ⟨xs1, hx1⟩ : ∃ xs1, tkL 4 xs = xs1 := ⟨_, rfl⟩
  obtain ⟨s1, hs1⟩ : ∃ s1, tkS 4 xs s = s1 := ⟨_, rfl⟩
  have hxl1 : xs1.length ≤ 1048576 := by rw [← hx1]; exact Nat.le_trans (tkL_le _ _) hl
  have hxv1 : ∀ x ∈ xs1, x < 256 := by rw [← hx1]; exact tkL_lt hv
  obtain ⟨O, hO⟩ : ∃ O, outDict_I wd k xs s = O := ⟨_, rfl⟩
  have HO := hid hO
  unfold outDict_I at HO
  rw [hd, hx1, hs1] at HO
  rw [hd, hx1, hs1] at hU
  rw [hd] at hd32
  rw [hO]
  have HU := hid hU
  have HC := hid hc
  have HT := hid hT
  have hgw : g < w.heap.size := hc.lt
  have d2 : w.cell? ⟨g, 2, none⟩ = some (.int .i64 wd) := by rw [hc.cell]; rfl
  clear hU hc hr hT hd hx1 hs1 hO hv hl
  obtain ⟨B, hB⟩ : ∃ B, w.heap.size = B := ⟨_, rfl⟩
  have HB := hid hB
  rw [hB]
  clear hB
  have hm := m_readList_I
  go_enter Tryz.func105, Tryz.ntmps105
  go_upto_region 2 with (first | (go_at_call 131; refine HU.out.mono ?_; rintro e w1 ⟨rfl, ha1, hc1⟩; have HA1 := hid ha1; have HC1 := hid (Chg.wide' (a := g) hc1); have HCK1 := hid (hc1.row HC.out hne hne); clear ha1 hc1))
  have e2 : w1.cell? ⟨g, 2, none⟩ = some (.int .i64 wd) := by rw [HCK1.out.cell]; rfl
  have hgr1 : gr < w1.heap.size := Nat.lt_of_lt_of_le hgs HC1.out.size
  have hgB : g < B := by have := HB.out; omega
  have hB1 : B ≤ w1.heap.size := by have := HB.out; have := HC1.out.size; omega
  have HFAIL : Hid (∀ n, OutAt_I w0 w (w1.drewN n) B g gr rows codec wd k nulls kind_I bef base { b := false, left := xs1, short := s1, list := [], ends := [], lanes := [] }) := hid (fun n =>
    ⟨⟨_, _, _, HCK1.out.drewN n, World.ownsRow_nil _ _ _ _, World.ownsRow_nil _ _ _ _, World.ownsRow_nil _ _ _ _⟩, HA1.out.mono (bdrew (brefl w1) n), HC1.out.drewN n⟩)
  clear HU HC d2
  by_cases hbig : 256 < d
  · have hO : O = { b := false, left := xs1, short := s1, list := [], ends := [], lanes := [] } := by rw [← HO.out, if_pos (.inl hbig)]
    subst hO
    have hb1 : (d : Int) > 256 := by omega
    go_wp2_with fail
    go_quiet (fail)
    go_wp2_with fail
    go_ret
    exact ⟨rfl, HFAIL.out _⟩
  · have hb1 : ¬ (d : Int) > 256 := by omega
    obtain ⟨nd, hnd⟩ : ∃ nd, needN d = nd := ⟨_, rfl⟩
    have HN := hid (fun w2 : World => Need_any d w2 (by omega))
    rw [hnd] at HN HO
    clear hnd
    by_cases hw : wd = (nd : Int)
    · have hw1 : (wd != (nd : Int)) = false := by rw [hw]; simp
      have hO2 := HO.out
      rw [if_neg (fun h => h.elim (fun h => hbig h) (fun h => h hw))] at hO2
      obtain ⟨vals, ok, xl, s2, hR⟩ : ∃ vals ok xl s2, rdI d xs1 s1 = (vals, ok, xl, s2) := ⟨_, _, _, _, rfl⟩
      rw [hR] at hO2
      simp only at hO2
      have hxl : xl.length ≤ 1048576 := by have := (rd_left_I d xs1 s1).1; rw [hR] at this; exact Nat.le_trans this hxl1
      have hxv : ∀ x ∈ xl, x < 256 := by have := (rd_left_I d xs1 s1).2 256 hxv1; rw [hR] at this; exact this
      have hvl : vals.length ≤ 1048576 := by have := rd_len_I d xs1 s1 hxl1; rw [hR] at this; exact this
      have HO2 := hid hO2
      have HRL := hid (fun (w2 : World) (h : RdrAt w0 w2 gr xs1 s1) (h2 : gr < w2.heap.size) => readListI_any w0 w2 gr xs1 s1 d h h2 hxv1 hxl1 (by omega))
      rw [hR] at HRL
      have HHW := hid hw
      clear hO2 hR hw HO HFAIL
      go_wp2_with fail
      go_quiet (first | (go_at_call 117; refine Calls.quiet_of_same (HN.out _)))
      have HA2 := hid (HA1.out.mono (bdrew (brefl w1) nq))
      have HC2 := hid (HC1.out.drewN nq)
      have HCK2 := hid (HCK1.out.drewN nq)
      have hgr2 : gr < (w1.drewN nq).heap.size := hgr1
      have hB2 : B ≤ (w1.drewN nq).heap.size := hB1
      clear HA1 HC1 HCK1 e2 HN
      generalize w1.drewN nq = w2 at *
      have d9 : w2.cell? ⟨g, 0 + 9, none⟩ = some (.iface 46 (.agg #[])) := by rw [HCK2.out.cell]; rfl
      go_wp2_with fail
      refine (HRL.out w2 HA2.out hgr2).mono ?_
      rintro e w3 ⟨v3, rfl, ho3, ha3, hc3⟩
      obtain ⟨A3, c3, rfl, hcc3, _, _, _⟩ := owns_form ho3
      have HO3 := hid (owns_mono_I ho3 hB2)
      have HA3 := hid ha3
      have HC3 := hid (HC2.out.trans (Chg.wide' (a := g) hc3))
      have HCK3 := hid (hc3.row HCK2.out hne hne)
      have e5 : w3.cell? ⟨g, 0 + 5, none⟩ = some nilS := by rw [HCK3.out.cell]; rfl
      have f5 := HCK3.out.frozen (0 + 5)
      have hgr3 : gr < w3.heap.size := Nat.lt_of_lt_of_le hgs HC3.out.size
      have hch4 := (Chg.refl g g w3).setCell g 5 (.slice A3 vals.length c3) (.inl rfl)
      have HCK4 : Hid (Row (w3.setCell ⟨g, 5, none⟩ (.slice A3 vals.length c3)) g 82 (ck_I rows codec wd nulls k (.slice A3 vals.length c3) nilS base nilS kind_I bef)) := hid (HCK3.out.set 5 _)
      have HO4 := hid (owns_chg HO3.out hch4 hgB hgB)
      have HA4 := hid (HA3.out.chg hch4 (Ne.symm hne) (Ne.symm hne) hg0 hg0)
      have HC4 := hid (HC3.out.setCell g 5 (.slice A3 vals.length c3) (.inl rfl))
      have hgr4 : gr < (w3.setCell ⟨g, 5, none⟩ (.slice A3 vals.length c3)).heap.size := Nat.lt_of_lt_of_le hgr3 hch4.size
      have hB4 : B ≤ (w3.setCell ⟨g, 5, none⟩ (.slice A3 vals.length c3)).heap.size := Nat.le_trans hB2 (Nat.le_trans hc3.size hch4.size)
      clear ho3 ha3 hc3 hcc3 HA2 HC2 HCK2 d9 HRL HO3 HA3 HC3 HCK3 hch4 hm hgr2 hgr3 hB2
      go_upto_region 6 with fail
      clear e5 f5
      generalize w3.setCell ⟨g, 5, none⟩ (.slice A3 vals.length c3) = w4 at *
      have HASC := hid (ascendingI_any _ vals w4 (owns_rd HO4.out) (by unfold maxLen; omega))
      have HLN := hid (fun n : Nat => readLanes_I w0 (w4.drewN n) g gr xl s2 rows codec wd k nulls (.slice A3 vals.length c3) nilS nilS kind_I bef base 6 d HT.out (HCK4.out.drewN n) (HA4.out.mono (bdrew (brefl w4) n)) hne hg0 hgr4 hxv hxl (by omega))
      have HO5 := hid (fun n : Nat => (⟨⟨_, _, _, HCK4.out.drewN n, owns_below HO4.out (bdrew (brefl w4) n), World.ownsRow_nil _ _ _ _, World.ownsRow_nil _ _ _ _⟩, HA4.out.mono (bdrew (brefl w4) n), HC4.out.drewN n⟩ : OutAt_I w0 w (w4.drewN n) B g gr rows codec wd k nulls kind_I bef base { b := false, left := xl, short := s2, list := vals, ends := [], lanes := [] }))
      obtain ⟨asc, hasc⟩ : ∃ asc, noPair geI vals = asc := ⟨_, rfl⟩
      rw [hasc] at HASC HO2
      clear hasc
      cases ok
      case' false =>
        have hO := HO2.out
        rw [if_neg (by simp)] at hO
        subst hO
        go_wp2_with fail
        go_ret
        exact ⟨rfl, HO5.out 0⟩
      cases asc
      case' false =>
        have hO := HO2.out
        rw [if_neg (by simp)] at hO
        subst hO
        go_wp2_with (go_at_call 139; refine HASC.out.mono ?_; rintro e w5 ⟨rfl, n5, rfl⟩)
        go_ret
        exact ⟨rfl, HO5.out _⟩
      case' true =>
        have hO := HO2.out
        rw [if_pos (by rfl)] at hO
        obtain ⟨lb, hlb⟩ : ∃ lb, lanesB wd k 6 (restW xl) d = lb := ⟨_, rfl⟩
        rw [hlb] at HLN hO
        clear HO5 HO2 hlb
        subst hO
        go_wp2_with (first
          | (go_at_call 139; refine HASC.out.mono ?_; rintro e w5 ⟨rfl, n5, rfl⟩)
          | (go_at_call 140; refine (HLN.out n5).mono ?_; rintro e w6 ⟨rfl, v6, hr6, ho6, ha6, hc6⟩; have HR6 := hid hr6; have HO6 := hid (owns_mono_I ho6 hB4); have HA6 := hid ha6; have HC6 := hid hc6; have HO46 := hid (owns_chg (owns_below HO4.out (bdrew (brefl w4) n5)) hc6 hgB (by have := HB.out; omega)); clear hr6 ho6 ha6 hc6))
        go_ret
        exact ⟨rfl, ⟨_, _, _, HR6.out, HO46.out, World.ownsRow_nil _ _ _ _, HO6.out⟩, HA6.out, (HC4.out.drewN n5).trans HC6.out⟩
    · have hO : O = { b := false, left := xs1, short := s1, list := [], ends := [], lanes := [] } := by rw [← HO.out, if_pos (.inr hw)]
      subst hO
      have hw1 : (wd != (nd : Int)) = true := by rw [bne_iff_ne]; exact hw
      go_wp2_with fail
      go_quiet (first | (go_at_call 117; refine Calls.quiet_of_same (HN.out _)))
      go_wp2_with fail
      go_ret
      exact ⟨rfl, HFAIL.out _⟩
end Go.Proofs.YtdlkdiaobbakiaaGreatDoor
