/- Lists of cells that grow: append of one entry of three cells; the plain answer's lanesAt. -/
import Derived.Test.YthonbfojpbfmgaaGreatDoorLawfolduptoB8
import Derived.Deep.RegionHeld3
import Derived.Deep.CutRange
set_option linter.unusedVariables false
set_option linter.unusedSimpArgs false
set_option linter.unnecessarySimpa false
set_option maxRecDepth 100000
namespace Go.Proofs.YthonbfojpbfmgaaGreatDoor
open Go.RowKit

theorem cell_new3 (w : World) (a b c : Value) (e : TypeId) : ∀ j u, [a, b, c][j]? = some u → (w.alloc (.cells #[a, b, c] e)).cell? ((⟨w.heap.size, 0, none⟩ : Addr).add j) = some u := by
  intro j u h
  have hr : Row (w.alloc (.cells #[a, b, c] e)) w.heap.size e [a, b, c] := by unfold Row; rw [heap_alloc_new]
  rw [addr_add, hr.cell, Nat.zero_add]; exact h
theorem wpList_append3 {P : Program} {w : World} {ops : Array Oper} {rest : List Oper} {o : Oper} {a : Act} {Q : Exit → Act → World → Prop} {t : TypeId} {x y z v : Value} {B n : Nat} {xs : List Value}
    (hgd : o.guard = none) (s r : Operand) (ho : o.op = .call { callee := .builtin .append, args := #[s, r], argTypes := #[t, t] })
    (e : TypeId) (zs : List Value) (bytes : Nat) (h1 : P.underlying t = some (.slice e)) (h2 : (P.info? e).map (fun i => (i.zero, i.size, i.bytes)) = some (some (.agg zs.toArray), 3, bytes)) (hz : zs.length = 3)
    (hs : a.eval s = v) (hx : a.eval r = .slice (some ⟨w.heap.size, 0, none⟩) 1 1)
    (hown : w.ownsRow B e 3 v n xs) (hB : B ≤ w.heap.size) (hu : ∀ u ∈ [x, y, z], u.oneCell' = true) (hm : n + 1 ≤ maxLen) (hby : (n + 1) * bytes ≤ 140737488355328)
    (hK : ∀ v' w', w'.ownsRow B e 3 v' (n + 1) (xs ++ [x, y, z]) → Below B w w' → wpList P ops Q rest (a.put o.dst v') w') :
    wpList P ops Q (o :: rest) a (w.alloc (.cells #[x, y, z] e)) := by
  refine wpList_plain hgd fun K hK' => ?_
  unfold Oper.wp execOp
  simp only [ho, resolve, invoke, builtin, Sem.run_bind, Sem.run_pure, Result.andThen_ok, List.map_toArray, List.map_cons, List.map_nil, hs, hx]
  obtain ⟨i, hi, hz0, hz1, hz2⟩ := info_parts h2
  obtain ⟨v', w', hr, h3, h4, _⟩ := run_append_own (P := P) (w := w.alloc (.cells #[x, y, z] e)) B t o.type e i (.agg zs.toArray) 3 bytes h1 hi hz0 hz1 hz2 (by simpa [Value.cells] using hz) (by omega) v n xs (hown.alloc _)
    ⟨w.heap.size, 0, none⟩ 1 1 [x, y, z] rfl (cell_new3 w x y z e) hu hm hby (by simp; omega)
  have hlt := hown.lt
  refine upon_ok hr (hK' _ _ (hK _ _ h3 ?_))
  refine (((Below.refl B w).alloc hB _).grown h4 (by simp; omega) ?_)
  intro k hk; exact (hlt k hk).1
theorem owns3_form {w : World} {B : Nat} {e : TypeId} {v : Value} {n : Nat} {cs : List Value} (h : w.ownsRow B e 3 v n cs) : ∃ A cap, v = .slice A n cap := by
  rcases h.2 with ⟨rfl, rfl⟩ | ⟨g, cap, cur, rfl, _⟩
  · exact ⟨none, 0, rfl⟩
  · exact ⟨_, _, rfl⟩
theorem owns3_rd {w : World} {B : Nat} {e : TypeId} {v : Value} {n : Nat} {cs : List Value} (h : w.ownsRow B e 3 v n cs) : Rd w v n 3 cs := by
  refine ⟨h.1, ?_⟩
  rcases h.2 with ⟨rfl, rfl⟩ | ⟨g, cap, cur, rfl, hb, hg, hnc, hcm, hcs, htake⟩
  · exact .inl ⟨⟨_, rfl⟩, rfl⟩
  · refine .inr ⟨g, 0, cap, rfl, hnc, hcm, ?_⟩
    intro i v hv
    have := h.cells (g := g) rfl i v hv
    rwa [addr_add] at this
theorem owns3_below {w w' : World} {B : Nat} {e : TypeId} {v : Value} {n : Nat} {cs : List Value} (h : w.ownsRow B e 3 v n cs) (hb : Below w.heap.size w w') : w'.ownsRow B e 3 v n cs := by
  refine ⟨h.1, ?_⟩
  rcases h.2 with hn | ⟨g, cap, cur, rfl, hb', hg, r⟩
  · exact .inl hn
  · exact .inr ⟨g, cap, cur, rfl, hb', by rw [hb.block g (Array.getElem?_eq_some_iff.1 hg).1]; exact hg, r⟩

def lanesOk (wd k p : Nat) (xs : List Nat) : Bool := decide (p ≤ xs.length ∧ (xs.length - p) % 8 = 0) && okPack wd k (restW (xs.drop p))
def lanesV (wd k p : Nat) (xs : List Nat) : List Nat := if lanesOk wd k p xs = true then L.lanesL wd k (restW (xs.drop p)) else []
set_option maxHeartbeats 2000000 in
theorem lanesAt_any (v : Value) (xs : List Nat) (p wd k : Nat) (w : World) (hx : Rd w v xs.length 1 (u8s xs)) (hb : ∀ x ∈ xs, x < 256) (hl : xs.length ≤ 16777216) (hp : p ≤ 1099511627776) :
    Calls Tryz.prog 164 #[v, .int .i64 p, .int .i64 wd, .int .i64 k] w fun e w' =>
      ∃ u, e = .returned (.tuple #[u, .bool (lanesOk wd k p xs)]) ∧ w'.ownsRow w.heap.size 40 1 u (lanesV wd k p xs).length (u64s (lanesV wd k p xs)) ∧ Below w.heap.size w w' := by
  by_cases hg : p ≤ xs.length ∧ (xs.length - p) % 8 = 0
  · have hdl : (xs.drop p).length = xs.length - p := by simp
    obtain ⟨c, hc⟩ : ∃ c, (xs.length - p) / 8 = c := ⟨_, rfl⟩
    have hci : ((xs.length : Int) - (p : Int)) / 8 = (c : Int) := by omega
    have hmod2 : ((xs.length : Int) - (p : Int)) % 8 = 0 := by omega
    have hrw : numL 8 (tk (8 * c) (xs.drop p)) = restW (xs.drop p) := by unfold restW; rw [hdl, hc]
    have hno : numsOk 8 c p xs.length = true := by unfold numsOk; exact decide_eq_true ⟨hg.1, by omega⟩
    have HN := hid (numbersAt_any v xs p 8 c w hx hb hl (.inr rfl) hp (by omega))
    rw [hrw, hno] at HN
    have hwl : (restW (xs.drop p)).length ≤ 16777216 := by rw [restW_len, hdl]; omega
    have hwv : ∀ x ∈ restW (xs.drop p), x < 18446744073709551616 := by unfold restW; exact numL_lt (tk_lt (fun x h => hb x (List.mem_of_mem_drop h))) (by omega)
    have eok : lanesOk wd k p xs = okPack wd k (restW (xs.drop p)) := by unfold lanesOk; rw [decide_eq_true hg, Bool.true_and]
    have eV : lanesV wd k p xs = unpackR wd k (restW (xs.drop p)) := by unfold lanesV unpackR; rw [eok]; simp
    rw [eok, eV]
    generalize restW (xs.drop p) = ws at *
    obtain ⟨A, ca, rfl, hlc, hcm, hA⟩ := hx.form
    have hp1 : ¬ (p : Int) > (xs.length : Int) := by omega
    have HU := hid (fun (w2 : World) (u : Value) (h : Rd w2 u ws.length 1 (u64s ws)) => refUnpack_any u ws wd k w2 h hwv (by unfold maxLen; omega))
    obtain ⟨B, hB⟩ : ∃ B, w.heap.size = B := ⟨_, rfl⟩
    have HBE := hid hB
    rw [hB]
    generalize okPack wd k ws = ok at *
    generalize unpackR wd k ws = R at *
    simp only [if_pos] at HN
    clear hx hA eok eV hno hrw hwv hB hb
    go_enter Tryz.func164, Tryz.ntmps164
    go_wp2_with fail
    refine HN.out.mono ?_
    rintro e w1 ⟨u, rfl, ho, hb1⟩
    obtain ⟨A1, c1, rfl, _, _, _⟩ := owns_form ho
    have HO := hid (owns_rd ho)
    have HB1 := hid hb1
    clear ho hb1
    go_wp2_with fail
    refine (HU.out w1 _ HO.out).mono ?_
    rintro e w2 ⟨u2, rfl, ho2, hb2⟩
    have HO2 := hid (owns_mono_I ho2 (by have := HBE.out; have := HB1.out.size; omega : B ≤ w1.heap.size))
    have HB2 := hid (bthen HB1.out hb2)
    clear ho2 hb2
    go_wp2_with fail
    go_ret2
    exact ⟨_, rfl, HO2.out, by rw [← HBE.out]; exact HB2.out⟩
  · have eok : lanesOk wd k p xs = false := by unfold lanesOk; rw [decide_eq_false hg, Bool.false_and]
    have eV : lanesV wd k p xs = [] := by unfold lanesV; rw [eok]; simp
    rw [eok, eV]
    obtain ⟨A, ca, rfl, hlc, hcm, hA⟩ := hx.form
    clear hx hA eok eV
    go_enter Tryz.func164, Tryz.ntmps164
    by_cases h1 : p ≤ xs.length
    · have hp1 : ¬ (p : Int) > (xs.length : Int) := by omega
      have hne : ¬ (xs.length - p) % 8 = 0 := fun h => hg ⟨h1, h⟩
      have hmod2 : (((xs.length : Int) - (p : Int)) % 8 != 0) = true := by rw [bne_iff_ne]; omega
      go_wp2
      go_ret2
      exact ⟨_, rfl, World.ownsRow_nil _ _ _ _, brefl w⟩
    · have hp1 : (p : Int) > (xs.length : Int) := by omega
      go_wp2
      go_ret2
      exact ⟨_, rfl, World.ownsRow_nil _ _ _ _, brefl w⟩
end Go.Proofs.YthonbfojpbfmgaaGreatDoor

/- Package chunk: runs off the reader. -/
set_option linter.unusedVariables false
set_option linter.unusedSimpArgs false
set_option linter.unnecessarySimpa false
set_option maxRecDepth 100000
namespace Go.Proofs.YthonbfojpbfmgaaGreatDoor
open Go.RowKit

def outRuns_I (wd : Int) (k : Nat) (xs : List Nat) (s : Bool) : Out_I :=
  if wd ≠ 0 ∨ runEnds (nI (numL 4 (tk (4 * L.wordOf 8 (tk 4 xs)) (tkL 4 xs)))) k = false then
    { b := false, left := tkL (4 * L.wordOf 8 (tk 4 xs)) (tkL 4 xs), short := tkS (4 * L.wordOf 8 (tk 4 xs)) (tkL 4 xs) (tkS 4 xs s), list := [], ends := numL 4 (tk (4 * L.wordOf 8 (tk 4 xs)) (tkL 4 xs)), lanes := [] }
  else match rdI (L.wordOf 8 (tk 4 xs)) (tkL (4 * L.wordOf 8 (tk 4 xs)) (tkL 4 xs)) (tkS (4 * L.wordOf 8 (tk 4 xs)) (tkL 4 xs) (tkS 4 xs s)) with
    | (vals, ok, xl, s3) => { b := ok && noPair eqI vals, left := xl, short := s3, list := vals, ends := numL 4 (tk (4 * L.wordOf 8 (tk 4 xs)) (tkL 4 xs)), lanes := [] }

set_option maxHeartbeats 8000000 in
theorem readRuns_I (w0 w : World) (g gr : Nat) (xs : List Nat) (s : Bool) (rows codec wd : Int) (k : Nat) (nulls bef : Value) (base : Int)
    (hc : Row w g 111 (ck_I rows codec wd nulls k nilS nilS base nilS kind_I bef)) (hr : RdrAt w0 w gr xs s) (hne : g ≠ gr) (hg0 : w0.heap.size ≤ g) (hgs : gr < w.heap.size)
    (hv : ∀ x ∈ xs, x < 256) (hl : xs.length ≤ 16777216) (hk : k ≤ 65536) :
    Calls Tryz.prog 158 #[.pointer (some ⟨g, 0, none⟩), .pointer (some ⟨gr, 0, none⟩)] w fun e w' =>
      e = .returned (.bool (outRuns_I wd k xs s).b) ∧ OutAt_I w0 w w' w.heap.size g gr rows codec wd k nulls kind_I bef base (outRuns_I wd k xs s) := by
  have hU := U32_any w0 w gr xs s hr hv hl
  have hd32 : L.wordOf 8 (tk 4 xs) < 4294967296 := wordOf4_lt _ (tk_lt hv) (tk_le 4 xs)
  obtain ⟨O, hO⟩ : ∃ O, outRuns_I wd k xs s = O := ⟨_, rfl⟩
  have HO := hid hO
  unfold outRuns_I at HO
  rw [hO]
  clear hO
  obtain ⟨d, hd⟩ : ∃ d, L.wordOf 8 (tk 4 xs) = d := ⟨_, rfl⟩
  obtain ⟨xs1, hx1⟩ : ∃ xs1, tkL 4 xs = xs1 := ⟨_, rfl⟩
  obtain ⟨s1, hs1⟩ : ∃ s1, tkS 4 xs s = s1 := ⟨_, rfl⟩
  have hxl1 : xs1.length ≤ 16777216 := by rw [← hx1]; exact Nat.le_trans (tkL_le _ _) hl
  have hxv1 : ∀ x ∈ xs1, x < 256 := by rw [← hx1]; exact tkL_lt hv
  rw [hd, hx1, hs1] at hU HO
  rw [hd] at hd32
  obtain ⟨es, hes⟩ : ∃ es, numL 4 (tk (4 * d) xs1) = es := ⟨_, rfl⟩
  obtain ⟨xs2, hx2⟩ : ∃ xs2, tkL (4 * d) xs1 = xs2 := ⟨_, rfl⟩
  obtain ⟨s2, hs2⟩ : ∃ s2, tkS (4 * d) xs1 s1 = s2 := ⟨_, rfl⟩
  have hxl2 : xs2.length ≤ 16777216 := by rw [← hx2]; exact Nat.le_trans (tkL_le _ _) hxl1
  have hxv2 : ∀ x ∈ xs2, x < 256 := by rw [← hx2]; exact tkL_lt hxv1
  have hel : es.length ≤ 16777216 := by
    rw [← hes, numL_length]; unfold tk; split
    · rw [List.length_take]; omega
    · simp
  rw [hes, hx2, hs2] at HO
  have HUS := hid (fun (w2 : World) (h2 : RdrAt w0 w2 gr xs1 s1) (hg2 : gr < w2.heap.size) => U32s_any w0 w2 gr xs1 s1 d h2 hg2 hxv1 hxl1 (by omega))
  rw [hes, hx2, hs2] at HUS
  have HU := hid hU
  have HC := hid hc
  have hgw : g < w.heap.size := hc.lt
  clear hU hc hr hd hx1 hs1 hes hx2 hs2 hv hl
  obtain ⟨B, hB⟩ : ∃ B, w.heap.size = B := ⟨_, rfl⟩
  have HB := hid hB
  rw [hB]
  clear hB
  have hm := m_readList_I
  have hgB : g < B := by have := HB.out; omega
  have hrB : gr < B := by have := HB.out; omega
  go_enter Tryz.func158, Tryz.ntmps158
  go_upto_region 2 with (first | (go_at_call 183; refine HU.out.mono ?_; rintro e w1 ⟨rfl, ha1, hc1⟩; have HA1 := hid ha1; have HC1 := hid (Chg.wide' (a := g) hc1); have HCK1 := hid (hc1.row HC.out hne hne); clear ha1 hc1))
  have hgr1 : gr < w1.heap.size := Nat.lt_of_lt_of_le hgs HC1.out.size
  have hB1 : B ≤ w1.heap.size := by have := HB.out; have := HC1.out.size; omega
  clear HU HC
  go_wp2_with fail
  refine (HUS.out w1 HA1.out hgr1).mono ?_
  rintro e w2 ⟨p, hp, rfl, hrow2, ha2, hc2⟩
  have hpB : B ≤ p := Nat.le_trans hB1 hp
  have hpg : p ≠ g := by omega
  have hpr : p ≠ gr := by omega
  have HCK2 := hid (hc2.row HCK1.out hne hne)
  have e6 : w2.cell? ⟨g, 0 + 6, none⟩ = some nilS := by rw [HCK2.out.cell]; rfl
  have f6 := HCK2.out.frozen (0 + 6)
  have hch := (Chg.refl g g w2).setCell g 6 (.slice (some ⟨p, 0, none⟩) es.length es.length) (.inl rfl)
  have HCK3 : Hid (Row (w2.setCell ⟨g, 6, none⟩ (.slice (some ⟨p, 0, none⟩) es.length es.length)) g 111 (ck_I rows codec wd nulls k nilS (.slice (some ⟨p, 0, none⟩) es.length es.length) base nilS kind_I bef)) := hid (HCK2.out.set 6 _)
  have HR3 := hid (hch.row hrow2 hpg hpg)
  have HA3 := hid (ha2.chg hch (Ne.symm hne) (Ne.symm hne) hg0 hg0)
  have HC3 := hid ((HC1.out.trans (Chg.wide' (a := g) hc2)).setCell g 6 (.slice (some ⟨p, 0, none⟩) es.length es.length) (.inl rfl))
  have hgr3 : gr < (w2.setCell ⟨g, 6, none⟩ (.slice (some ⟨p, 0, none⟩) es.length es.length)).heap.size := Nat.lt_of_lt_of_le hgs HC3.out.size
  have hB3 : B ≤ (w2.setCell ⟨g, 6, none⟩ (.slice (some ⟨p, 0, none⟩) es.length es.length)).heap.size := Nat.le_trans hB1 (Nat.le_trans hc2.size hch.size)
  clear hrow2 ha2 hc2 HA1 HC1 HCK1 HCK2 hch hgr1 hB1 HUS hp
  go_upto_region 3 with fail
  clear e6 f6
  generalize w2.setCell ⟨g, 6, none⟩ (.slice (some ⟨p, 0, none⟩) es.length es.length) = w3 at *
  have HOE := hid (HR3.out.owns (B := B) (n := es.length) hpB (by simp [i64s, nI]) (by unfold maxLen; omega))
  have HFAIL : Hid (∀ n, OutAt_I w0 w (w3.drewN n) B g gr rows codec wd k nulls kind_I bef base { b := false, left := xs2, short := s2, list := [], ends := es, lanes := [] }) := hid (fun n =>
    ⟨⟨_, _, _, HCK3.out.drewN n, World.ownsRow_nil _ _ _ _, owns_below HOE.out (bdrew (brefl w3) n), World.ownsRow_nil _ _ _ _⟩, HA3.out.mono (bdrew (brefl w3) n), HC3.out.drewN n⟩)
  have e2 : w3.cell? ⟨g, 2, none⟩ = some (.int .i64 wd) := by rw [HCK3.out.cell]; rfl
  have e4 : w3.cell? ⟨g, 4, none⟩ = some (.int .i64 k) := by rw [HCK3.out.cell]; rfl
  have e6 : w3.cell? ⟨g, 6, none⟩ = some (.slice (some ⟨p, 0, none⟩) es.length es.length) := by rw [HCK3.out.cell]; rfl
  have HEN := hid (fun nd : Nat => areRunEnds_any (.slice (some ⟨p, 0, none⟩) es.length es.length) (nI es) k (w3.drewN nd) (by rw [nI_length]; exact ((HR3.out.drewN nd).rd' (n := es.length) (by simp [i64s, nI]) (by unfold maxLen; omega))) (by rw [nI_length]; unfold maxLen; omega))
  obtain ⟨re, hre⟩ : ∃ re, runEnds (nI es) k = re := ⟨_, rfl⟩
  rw [hre] at HEN HO
  clear hre
  by_cases hw : wd = 0
  case neg =>
    have hO : O = { b := false, left := xs2, short := s2, list := [], ends := es, lanes := [] } := by rw [← HO.out, if_pos (.inl hw)]
    subst hO
    have hw1 : (wd != 0) = true := by rw [bne_iff_ne]; exact hw
    go_wp2_with fail
    go_quiet (fail)
    go_wp2_with fail
    go_ret
    exact ⟨rfl, HFAIL.out _⟩
  case pos =>
    have hw1 : (wd != 0) = false := by rw [hw]; rfl
    cases re
    case false =>
      have hO : O = { b := false, left := xs2, short := s2, list := [], ends := es, lanes := [] } := by rw [← HO.out, if_pos (.inr rfl)]
      subst hO
      clear hw
      go_wp2_with fail
      go_quiet (first | (go_at_call 188; refine Calls.quiet_of_same (HEN.out _)))
      go_wp2_with fail
      go_ret
      exact ⟨rfl, HFAIL.out _⟩
    case true =>
      have hO2 := HO.out
      rw [if_neg (fun h => h.elim (fun h => h hw) (fun h => by cases h))] at hO2
      obtain ⟨vals, ok, xl, s4, hR⟩ : ∃ vals ok xl s4, rdI d xs2 s2 = (vals, ok, xl, s4) := ⟨_, _, _, _, rfl⟩
      rw [hR] at hO2
      simp only at hO2
      have hvl : vals.length ≤ 16777216 := by have := rd_len_I d xs2 s2 hxl2; rw [hR] at this; exact this
      have HO2 := hid hO2
      have HRL := hid (fun (w2 : World) (h : RdrAt w0 w2 gr xs2 s2) (h2 : gr < w2.heap.size) => readListI_any w0 w2 gr xs2 s2 d h h2 hxv2 hxl2 (by omega))
      rw [hR] at HRL
      clear hO2 hR hw HO HFAIL
      go_wp2_with fail
      go_quiet (first | (go_at_call 188; refine Calls.quiet_of_same (HEN.out _)))
      have HA4 := hid (HA3.out.mono (bdrew (brefl w3) nq))
      have HC4 := hid (HC3.out.drewN nq)
      have HCK4 := hid (HCK3.out.drewN nq)
      have HOE4 := hid (owns_below HOE.out (bdrew (brefl w3) nq))
      have hgr4 : gr < (w3.drewN nq).heap.size := hgr3
      have hB4 : B ≤ (w3.drewN nq).heap.size := hB3
      clear HA3 HC3 HCK3 HOE HR3 e2 e4 e6 HEN hgr3 hB3
      generalize w3.drewN nq = w4 at *
      have d9 : w4.cell? ⟨g, 0 + 9, none⟩ = some (.iface 68 (.agg #[])) := by rw [HCK4.out.cell]; rfl
      go_wp2_with fail
      refine (HRL.out w4 HA4.out hgr4).mono ?_
      rintro e w5 ⟨v3, rfl, ho3, ha3, hc3⟩
      obtain ⟨A3, c3, rfl, hcc3, _, _, _⟩ := owns_form ho3
      have HO5 := hid (owns_mono_I ho3 hB4)
      have HA5 := hid ha3
      have HC5 := hid (HC4.out.trans (Chg.wide' (a := g) hc3))
      have HCK5 := hid (hc3.row HCK4.out hne hne)
      have HOE5 := hid (owns_chg HOE4.out hc3 hrB hrB)
      have e5 : w5.cell? ⟨g, 0 + 5, none⟩ = some nilS := by rw [HCK5.out.cell]; rfl
      have f5 := HCK5.out.frozen (0 + 5)
      have hch6 := (Chg.refl g g w5).setCell g 5 (.slice A3 vals.length c3) (.inl rfl)
      have HCK6 : Hid (Row (w5.setCell ⟨g, 5, none⟩ (.slice A3 vals.length c3)) g 111 (ck_I rows codec wd nulls k (.slice A3 vals.length c3) (.slice (some ⟨p, 0, none⟩) es.length es.length) base nilS kind_I bef)) := hid (HCK5.out.set 5 _)
      have HO6 := hid (owns_chg HO5.out hch6 hgB hgB)
      have HOE6 := hid (owns_chg HOE5.out hch6 hgB hgB)
      have HA6 := hid (HA5.out.chg hch6 (Ne.symm hne) (Ne.symm hne) hg0 hg0)
      have HC6 := hid (HC5.out.setCell g 5 (.slice A3 vals.length c3) (.inl rfl))
      clear ho3 ha3 hc3 hcc3 HA4 HC4 HCK4 HOE4 d9 HRL HO5 HA5 HC5 HCK5 HOE5 hch6 hm hgr4 hB4
      go_upto_region 7 with fail
      clear e5 f5
      generalize w5.setCell ⟨g, 5, none⟩ (.slice A3 vals.length c3) = w6 at *
      have HDF := hid (differI_any _ vals w6 (owns_rd HO6.out) (by unfold maxLen; omega))
      have HO7 := hid (fun (n : Nat) (b : Bool) => (⟨⟨_, _, _, HCK6.out.drewN n, owns_below HO6.out (bdrew (brefl w6) n), owns_below HOE6.out (bdrew (brefl w6) n), World.ownsRow_nil _ _ _ _⟩, HA6.out.mono (bdrew (brefl w6) n), HC6.out.drewN n⟩ : OutAt_I w0 w (w6.drewN n) B g gr rows codec wd k nulls kind_I bef base { b := b, left := xl, short := s4, list := vals, ends := es, lanes := [] }))
      obtain ⟨df, hdf⟩ : ∃ df, noPair eqI vals = df := ⟨_, rfl⟩
      rw [hdf] at HDF HO2
      clear hdf
      have hO := HO2.out
      subst hO
      clear HO2
      cases ok
      case' false =>
        go_wp2_with fail
        go_ret
        exact ⟨rfl, HO7.out 0 _⟩
      case' true =>
        go_wp2_with (go_at_call 206; refine HDF.out.mono ?_; rintro e w7 ⟨rfl, n7, rfl⟩)
        go_ret
        exact ⟨rfl, HO7.out _ _⟩
end Go.Proofs.YthonbfojpbfmgaaGreatDoor

/- Package chunk: offsets and whole payloads of integers off the reader. -/
set_option linter.unusedVariables false
set_option linter.unusedSimpArgs false
set_option linter.unnecessarySimpa false
set_option maxRecDepth 100000
namespace Go.Proofs.YthonbfojpbfmgaaGreatDoor
open Go.RowKit

def roomN (base : Int) : Nat := (9223372036854775807 - base).toNat
def outOff (wd base : Int) (k : Nat) (xs : List Nat) (s : Bool) : Out_I :=
  { b := lanesB wd k 5 (restW xs) (roomN base), left := tkL (8 * (xs.length / 8)) xs, short := tkS (8 * (xs.length / 8)) xs s, list := [], ends := [], lanes := restW xs }
theorem room_u64 (b : Int) (h1 : -9223372036854775808 ≤ b) (h2 : b ≤ 9223372036854775807) : IntKind.u64.wrap (9223372036854775807 - IntKind.u64.wrap b) = ((roomN b : Nat) : Int) := by
  unfold roomN
  rw [IntKind.wrap_u64, IntKind.wrap_u64]
  omega
theorem sgn64_bd (x : Nat) : -9223372036854775808 ≤ sgn64 x ∧ sgn64 x ≤ 9223372036854775807 := by unfold sgn64 wrap64; omega

set_option maxHeartbeats 4000000 in
theorem readOffsets_any (w0 w : World) (g gr : Nat) (xs : List Nat) (s : Bool) (rows codec wd : Int) (k : Nat) (nulls bef : Value) (base : Int) (hT : Tab w0)
    (hc : Row w g 111 (ck_I rows codec wd nulls k nilS nilS base nilS kind_I bef)) (hr : RdrAt w0 w gr xs s) (hne : g ≠ gr) (hg0 : w0.heap.size ≤ g) (hgs : gr < w.heap.size)
    (hv : ∀ x ∈ xs, x < 256) (hl : xs.length ≤ 16777216) (hb1 : -9223372036854775808 ≤ base) (hb2 : base ≤ 9223372036854775807) :
    Calls Tryz.prog 159 #[.pointer (some ⟨g, 0, none⟩), .pointer (some ⟨gr, 0, none⟩)] w fun e w' =>
      e = .returned (.bool (outOff wd base k xs s).b) ∧ OutAt_I w0 w w' w.heap.size g gr rows codec wd k nulls kind_I bef base (outOff wd base k xs s) := by
  have hroom := room_u64 base hb1 hb2
  have hrl : roomN base < 18446744073709551616 := by unfold roomN; omega
  have HLN := hid (readLanes_I w0 w g gr xs s rows codec wd k nulls nilS nilS nilS kind_I bef base 5 (roomN base) hT hc hr hne hg0 hgs hv hl hrl)
  have e7 : w.cell? ⟨g, 0 + 7, none⟩ = some (.int .i64 base) := by rw [hc.cell]; rfl
  unfold outOff
  generalize roomN base = rm at *
  generalize lanesB wd k 5 (restW xs) rm = lb at *
  clear hc hr hv hT
  go_enter Tryz.func159, Tryz.ntmps159
  go_wp2_with fail
  refine HLN.out.mono ?_
  rintro e w1 ⟨rfl, v, h1, h2, h3, h4⟩
  have H1 := hid h1; have H2 := hid h2; have H3 := hid h3; have H4 := hid h4
  clear h1 h2 h3 h4
  go_wp2_with fail
  go_ret
  exact ⟨rfl, ⟨_, _, _, H1.out, World.ownsRow_nil _ _ _ _, World.ownsRow_nil _ _ _ _, H2.out⟩, H3.out, H4.out⟩

def basePay (codec : Nat) (xs : List Nat) : Int := if codec = 4 then sgn64 (L.wordOf 8 (tk 8 xs)) else 0
def outPay_I (codec : Nat) (wd : Int) (k : Nat) (xs : List Nat) (s : Bool) : Out_I :=
  if codec = 1 then outPlain_I wd k xs s else if codec = 2 then outDict_I wd k xs s else if codec = 3 then outRuns_I wd k xs s
  else if codec = 4 then outOff wd (basePay 4 xs) k (tkL 8 xs) (tkS 8 xs s) else outOff wd 0 k xs s

set_option maxHeartbeats 8000000 in
theorem readPayload_I (w0 w : World) (g gr : Nat) (xs : List Nat) (s : Bool) (rows wd : Int) (codec k : Nat) (nulls bef : Value) (hT : Tab w0)
    (hc : Row w g 111 (ck_I rows codec wd nulls k nilS nilS 0 nilS kind_I bef)) (hr : RdrAt w0 w gr xs s) (hne : g ≠ gr) (hg0 : w0.heap.size ≤ g) (hgs : gr < w.heap.size)
    (hv : ∀ x ∈ xs, x < 256) (hl : xs.length ≤ 16777216) (hk : k ≤ 65536) (hcd : 1 ≤ codec ∧ codec ≤ 5) :
    Calls Tryz.prog 105 #[.pointer (some ⟨g, 0, none⟩), .pointer (some ⟨gr, 0, none⟩)] w fun e w' =>
      e = .returned (.bool (outPay_I codec wd k xs s).b) ∧ OutAt_I w0 w w' w.heap.size g gr rows codec wd k nulls kind_I bef (basePay codec xs) (outPay_I codec wd k xs s) := by
  have c1 : w.cell? ⟨g, 0 + 1, none⟩ = some (.int .i64 codec) := by rw [hc.cell]; rfl
  obtain ⟨O, hO⟩ : ∃ O, outPay_I codec wd k xs s = O := ⟨_, rfl⟩
  obtain ⟨bs, hbs⟩ : ∃ bs, basePay codec xs = bs := ⟨_, rfl⟩
  rw [hO, hbs]
  have HO := hid hO
  have HBS := hid hbs
  have HC := hid hc
  clear hO hbs
  by_cases h1 : codec = 1
  · subst h1
    obtain rfl : outPlain_I wd k xs s = O := by rw [← HO.out]; rfl
    obtain rfl : (0 : Int) = bs := by rw [← HBS.out]; rfl
    have HP := hid (readPlain_I w0 w g gr xs s rows _ wd k nulls bef 0 hc hr hne hg0 hgs hv hl hk)
    generalize outPlain_I wd k xs s = O at *
    clear hc hr hv hT
    go_enter Tryz.func105, Tryz.ntmps105
    go_wp2_with (go_at_call 156; refine HP.out.mono ?_; rintro e w1 ⟨rfl, h⟩; have H := hid h; clear h)
    go_ret
    exact ⟨rfl, H.out⟩
  by_cases h2 : codec = 2
  · subst h2
    obtain rfl : outDict_I wd k xs s = O := by rw [← HO.out]; rfl
    obtain rfl : (0 : Int) = bs := by rw [← HBS.out]; rfl
    have HP := hid (readDict_I w0 w g gr xs s rows _ wd k nulls bef 0 hT hc hr hne hg0 hgs hv hl hk)
    generalize outDict_I wd k xs s = O at *
    clear hc hr hv hT
    go_enter Tryz.func105, Tryz.ntmps105
    go_wp2_with (go_at_call 157; refine HP.out.mono ?_; rintro e w1 ⟨rfl, h⟩; have H := hid h; clear h)
    go_ret
    exact ⟨rfl, H.out⟩
  by_cases h3 : codec = 3
  · subst h3
    obtain rfl : outRuns_I wd k xs s = O := by rw [← HO.out]; rfl
    obtain rfl : (0 : Int) = bs := by rw [← HBS.out]; rfl
    have HP := hid (readRuns_I w0 w g gr xs s rows _ wd k nulls bef 0 hc hr hne hg0 hgs hv hl hk)
    generalize outRuns_I wd k xs s = O at *
    clear hc hr hv hT
    go_enter Tryz.func105, Tryz.ntmps105
    go_wp2_with (go_at_call 158; refine HP.out.mono ?_; rintro e w1 ⟨rfl, h⟩; have H := hid h; clear h)
    go_ret
    exact ⟨rfl, H.out⟩
  by_cases h4 : codec = 4
  · subst h4
    obtain rfl : outOff wd (basePay 4 xs) k (tkL 8 xs) (tkS 8 xs s) = O := by rw [← HO.out]; rfl
    obtain rfl : basePay 4 xs = bs := HBS.out
    obtain ⟨xs1, hx1⟩ : ∃ xs1, tkL 8 xs = xs1 := ⟨_, rfl⟩
    obtain ⟨s1, hs1⟩ : ∃ s1, tkS 8 xs s = s1 := ⟨_, rfl⟩
    have hxl1 : xs1.length ≤ 16777216 := by rw [← hx1]; exact Nat.le_trans (tkL_le _ _) hl
    have hxv1 : ∀ x ∈ xs1, x < 256 := by rw [← hx1]; exact tkL_lt hv
    obtain ⟨x, hx⟩ : ∃ x, L.wordOf 8 (tk 8 xs) = x := ⟨_, rfl⟩
    have hx64 : x < 18446744073709551616 := by rw [← hx]; exact wordOf8_lt _ (tk_lt hv) (tk_le 8 xs)
    have hbp : basePay 4 xs = sgn64 x := by unfold basePay; rw [if_pos rfl, hx]
    have hU := U64_any w0 w gr xs s hr hv hl
    rw [hx, hx1, hs1] at hU
    rw [hx1, hs1, hbp]
    have HU := hid hU
    have HT := hid hT
    have c7 : w.cell? ⟨g, 0 + 7, none⟩ = some (.int .i64 0) := by rw [hc.cell]; rfl
    have hgw : g < w.heap.size := hc.lt
    have HOFF := hid (fun (w2 : World) (h1 : Row w2 g 111 (ck_I rows (4 : Nat) wd nulls k nilS nilS (sgn64 x) nilS kind_I bef)) (h2 : RdrAt w0 w2 gr xs1 s1) (h3 : gr < w2.heap.size) =>
      readOffsets_any w0 w2 g gr xs1 s1 rows (4 : Nat) wd k nulls bef (sgn64 x) hT h1 h2 hne hg0 h3 hxv1 hxl1 (sgn64_bd x).1 (sgn64_bd x).2)
    obtain ⟨B, hB⟩ : ∃ B, w.heap.size = B := ⟨_, rfl⟩
    have HB := hid hB
    rw [hB]
    generalize outOff wd (sgn64 x) k xs1 s1 = O at *
    clear hc hr hv hT hU hx1 hs1 hx hbp HO HBS hB hxv1
    go_enter Tryz.func105, Tryz.ntmps105
    go_wp2_with fail
    refine HU.out.mono ?_
    rintro e w1 ⟨rfl, h1, h2⟩
    have HCK1 := hid (h2.row HC.out hne hne)
    have d7 : w1.cell? ⟨g, 0 + 7, none⟩ = some (.int .i64 0) := by rw [HCK1.out.cell]; rfl
    have f7 := HCK1.out.frozen (0 + 7)
    have hch := (Chg.refl g g w1).setCell g 7 (.int .i64 (sgn64 x)) (.inl rfl)
    have HCK2 : Hid (Row (w1.setCell ⟨g, 7, none⟩ (.int .i64 (sgn64 x))) g 111 (ck_I rows (4 : Nat) wd nulls k nilS nilS (sgn64 x) nilS kind_I bef)) := hid (HCK1.out.set 7 _)
    have HA2 := hid (h1.chg hch (Ne.symm hne) (Ne.symm hne) hg0 hg0)
    have HC2 := hid ((Chg.wide' (a := g) h2).setCell g 7 (.int .i64 (sgn64 x)) (.inl rfl))
    have hgr2 : gr < (w1.setCell ⟨g, 7, none⟩ (.int .i64 (sgn64 x))).heap.size := Nat.lt_of_lt_of_le hgs HC2.out.size
    have hB2 : B ≤ (w1.setCell ⟨g, 7, none⟩ (.int .i64 (sgn64 x))).heap.size := by have := HB.out; have := HC2.out.size; omega
    have esg : wrap64 (x : Int) = sgn64 x := rfl
    clear h1 h2 hch HC HCK1 c7 HU
    go_wp2_with fail
    rw [esg]
    clear d7 f7 esg
    generalize w1.setCell ⟨g, 7, none⟩ (.int .i64 (sgn64 x)) = w2 at *
    refine (HOFF.out w2 HCK2.out HA2.out hgr2).mono ?_
    rintro e w3 ⟨rfl, h⟩
    have H := hid h
    clear h
    go_wp2_with fail
    go_ret
    obtain ⟨⟨lv, ev, nv, h1, h2, h3, h4⟩, h5, h6⟩ := H.out
    exact ⟨rfl, ⟨lv, ev, nv, h1, owns_mono_I h2 hB2, owns_mono_I h3 hB2, owns_mono_I h4 hB2⟩, h5, HC2.out.trans h6⟩
  · obtain rfl : codec = 5 := by omega
    obtain rfl : outOff wd 0 k xs s = O := by rw [← HO.out]; rfl
    obtain rfl : (0 : Int) = bs := by rw [← HBS.out]; rfl
    have HP := hid (readOffsets_any w0 w g gr xs s rows _ wd k nulls bef 0 hT hc hr hne hg0 hgs hv hl (by omega) (by omega))
    generalize outOff wd 0 k xs s = O at *
    clear hc hr hv hT
    go_enter Tryz.func105, Tryz.ntmps105
    go_wp2_with (go_at_call 159; refine HP.out.mono ?_; rintro e w1 ⟨rfl, h⟩; have H := hid h; clear h)
    go_ret
    exact ⟨rfl, H.out⟩
end Go.Proofs.YthonbfojpbfmgaaGreatDoor

/- The plain answer: lists of integers, sums. -/
set_option linter.unusedVariables false
set_option linter.unusedSimpArgs false
set_option linter.unnecessarySimpa false
set_option maxRecDepth 100000
namespace Go.Proofs.YthonbfojpbfmgaaGreatDoor
open Go.RowKit

theorem owns3_mono {w : World} {B C : Nat} {e : TypeId} {v : Value} {n : Nat} {cs : List Value} (h : w.ownsRow B e 3 v n cs) (hC : C ≤ B) : w.ownsRow C e 3 v n cs := by
  refine ⟨h.1, ?_⟩
  rcases h.2 with hn | ⟨g, cap, cur, rfl, hb', hg, r⟩
  · exact .inl hn
  · exact .inr ⟨g, cap, cur, rfl, Nat.le_trans hC hb', hg, r⟩
def cellsI (xs : List Int) : List Value := xs.flatMap cellI
def cellsS (xs : List ByteArray) : List Value := xs.flatMap cellS
theorem cellsI_snoc (xs : List Int) (x : Int) : cellsI (xs ++ [x]) = cellsI xs ++ cellI x := by simp [cellsI]
theorem cellsS_snoc (xs : List ByteArray) (x : ByteArray) : cellsS (xs ++ [x]) = cellsS xs ++ cellS x := by simp [cellsS]
theorem take_map_snoc {α β : Type} (f : α → β) (d : α) (xs : List α) (j : Nat) (h : j < xs.length) : (xs.take (j + 1)).map f = (xs.take j).map f ++ [f (xs.getD j d)] := by
  rw [List.take_succ_eq_append_getElem h, List.map_append]
  simp [List.getD, List.getElem?_eq_getElem h]

/-- the value base + lane, as the plain answer makes it -/
def vsum (base : Int) (x : Nat) : Int := wrap64 (IntKind.u64.wrap (IntKind.u64.wrap base + (x : Int)))
def fits (base : Int) (ls : List Nat) : Bool := ls.all fun x => decide (x ≤ roomN base)
def sumsL (base : Int) (ls : List Nat) : List Int := if fits base ls = true then ls.map (vsum base) else []
theorem lanesV_lt (wd k p : Nat) (xs : List Nat) : ∀ x ∈ lanesV wd k p xs, x < 18446744073709551616 := by
  intro x hx
  unfold lanesV at hx
  split at hx
  · rename_i h
    have hw : wd ≤ 64 := by
      unfold lanesOk okPack okLim at h; simp only [Bool.and_eq_true, decide_eq_true_eq] at h; omega
    have h1 := L.lanesL_lt wd k _ x hx
    have h2 := pow_le_64 hw
    omega
  · cases hx
theorem lanesV_len (wd k p : Nat) (xs : List Nat) : (lanesV wd k p xs).length ≤ 65536 := by
  unfold lanesV
  split
  · rename_i h
    rw [L.lanesL_length]
    unfold lanesOk okPack okLim at h; simp only [Bool.and_eq_true, decide_eq_true_eq] at h; omega
  · simp

set_option maxHeartbeats 4000000 in
theorem sumsAt_any (v : Value) (xs : List Nat) (p wd k : Nat) (base : Int) (w : World) (hx : Rd w v xs.length 1 (u8s xs)) (hb : ∀ x ∈ xs, x < 256) (hl : xs.length ≤ 16777216) (hp : p ≤ 1099511627776)
    (hb1 : -9223372036854775808 ≤ base) (hb2 : base ≤ 9223372036854775807) :
    Calls Tryz.prog 114 #[v, .int .i64 p, .int .i64 wd, .int .i64 k, .int .i64 base] w fun e w' =>
      ∃ u, e = .returned (.tuple #[u, .bool (fits base (lanesV wd k p xs) && lanesOk wd k p xs)]) ∧
        w'.ownsRow w.heap.size 42 3 u (sumsL base (lanesV wd k p xs)).length (cellsI (sumsL base (lanesV wd k p xs))) ∧ Below w.heap.size w w' := by
  have HL := hid (lanesAt_any v xs p wd k w hx hb hl hp)
  have hlv := lanesV_lt wd k p xs
  have hll := lanesV_len wd k p xs
  obtain ⟨A, ca, rfl, _, _, _⟩ := hx.form
  generalize lanesV wd k p xs = ls at *
  generalize lanesOk wd k p xs = ok at *
  have hroom := room_u64 base hb1 hb2
  have HF : Hid (sumsL base ls = if fits base ls = true then ls.map (vsum base) else []) := hid rfl
  have HFF : Hid (∀ j, j < ls.length → ¬ ls.getD j 0 ≤ roomN base → fits base ls = false) := by
    refine hid fun j hj h => ?_
    rw [← Bool.not_eq_true]
    intro hf
    simp only [fits, List.all_eq_true, decide_eq_true_eq] at hf
    exact h (hf _ (by simp [List.getD, List.getElem?_eq_getElem hj]))
  have HFT : Hid ((∀ j, j < ls.length → ls.getD j 0 ≤ roomN base) → fits base ls = true) := by
    refine hid fun h => ?_
    simp only [fits, List.all_eq_true, decide_eq_true_eq]
    intro x hx
    obtain ⟨t, ht, rfl⟩ := List.getElem_of_mem hx
    have := h t ht
    simpa [List.getD, List.getElem?_eq_getElem ht] using this
  generalize roomN base = rm at *
  generalize fits base ls = F at *
  generalize sumsL base ls = SL at *
  have HSNOC := hid (fun j h => take_map_snoc (vsum base) 0 ls j h)
  obtain ⟨B, hB⟩ : ∃ B, w.heap.size = B := ⟨_, rfl⟩
  have HBE := hid hB
  rw [hB]
  have HLV := hid hlv
  clear hx hb hB hlv
  go_enter Tryz.func114, Tryz.ntmps114
  go_wp2_with fail
  refine HL.out.mono ?_
  rintro e w1 ⟨u, rfl, ho, hb1'⟩
  have hf := owns_rd ho
  obtain ⟨A1, c1, rfl, _, _, hA1⟩ := hf.form
  have HRD := hid hf
  have HB1 := hid hb1'
  clear ho hf hb1' HL hA1
  go_wp2
  go_loopw [14, 27] (fun u i wr => ∃ j : Nat, j ≤ ls.length ∧ i = .int .i64 j ∧ wr.ownsRow w1.heap.size 42 3 u j (cellsI ((ls.take j).map (vsum base))) ∧ Below w1.heap.size w1 wr ∧ Hid (∀ t, t < j → ls.getD t 0 ≤ rm)) (fun _ i _ => ls.length - (intOf i).toNat)
  case atStart => exact ⟨0, by omega, rfl, by simpa [cellsI] using World.ownsRow_nil _ _ _ _, brefl w1, hid (fun t h => absurd h (Nat.not_lt_zero t))⟩
  case round =>
    obtain ⟨j, hj, rfl, hown, hbw, hall⟩ := hrel
    have HOWN := hid hown
    obtain ⟨A2, c2, rfl⟩ := owns3_form hown
    clear hown
    by_cases hlt : j < ls.length
    · obtain ⟨A3, c3, he, _, _, hA3⟩ := (HRD.out.mono hbw).form
      cases he
      obtain ⟨b, o, rfl, hs⟩ := hA3 (by omega)
      have c1' := hs.word j hlt
      have hx64 := HLV.out (ls.getD j 0) (by simp [List.getD, List.getElem?_eq_getElem hlt])
      have HST := hid (HSNOC.out j hlt)
      have HBAD := hid (HFF.out j hlt)
      have HGOOD : Hid (ls.getD j 0 ≤ rm → ∀ t, t < j + 1 → ls.getD t 0 ≤ rm) := by
        refine hid fun h t ht => ?_
        by_cases htj : t = j
        · subst htj; exact h
        · exact hall.out t (by omega)
      have hBw : w1.heap.size ≤ wr.heap.size := hbw.size
      have HVS : Hid (vsum base (ls.getD j 0) = wrap64 (IntKind.u64.wrap (IntKind.u64.wrap base + ((ls.getD j 0 : Nat) : Int)))) := hid rfl
      clear hs hA3 hall
      generalize ls.getD j 0 = x at *
      by_cases hxr : x ≤ rm
      · have hxi : ¬ (x : Int) > (rm : Int) := by omega
        go_wp2_with (at_builtin; refine wpList_append3 rfl (.tmp 36) (.tmp 43) rfl 42 [.bool false, .int .i64 0, .string ByteArray.empty] 32 Tryz.underlying23 Tryz.infoCell rfl rfl rfl HOWN.out hBw (by intro u hu; simp at hu; rcases hu with rfl | rfl | rfl <;> rfl) (by unfold maxLen; omega) (by omega) ?_; intro v' w' ho hb3)
        go_roundw
        case rel =>
          refine ⟨j + 1, by omega, by go_num, ?_, hbw.trans hb3, hid (HGOOD.out hxr)⟩
          rw [HST.out, cellsI_snoc, HVS.out]
          exact ho
        case measure => simp [intOf]; omega
      · have hxi : (x : Int) > (rm : Int) := by omega
        have hff := HBAD.out hxr
        go_wp2
        go_ret2
        have hsl := HF.out
        rw [hff, if_neg (by simp)] at hsl
        rw [hff, hsl]
        exact ⟨_, by rw [Bool.false_and]; rfl, World.ownsRow_nil _ _ _ _, by rw [← HBE.out]; exact bthen HB1.out hbw⟩
    · obtain rfl : j = ls.length := by omega
      have hft := HFT.out hall.out
      go_wp2
      go_ret2
      have hsl := HF.out
      rw [hft, if_pos rfl] at hsl
      rw [hft, hsl]
      refine ⟨_, by rw [Bool.true_and]; rfl, ?_, by rw [← HBE.out]; exact bthen HB1.out hbw⟩
      have := HOWN.out
      rw [List.take_length] at this
      rw [List.length_map]
      exact owns3_mono this (by have := HBE.out; have := HB1.out.size; omega)
end Go.Proofs.YthonbfojpbfmgaaGreatDoor

/- The plain answer: lists of values at a place. -/
set_option linter.unusedVariables false
set_option linter.unusedSimpArgs false
set_option linter.unnecessarySimpa false
set_option maxRecDepth 100000
namespace Go.Proofs.YthonbfojpbfmgaaGreatDoor
open Go.RowKit

theorem Rd.short {w : World} {A : Option Addr} {c L : Nat} {xs : List Nat} (h : Rd w (.slice A L c) xs.length 1 (u8s xs)) (n : Nat) (hn : n ≤ xs.length) : Rd w (.slice A n c) (xs.take n).length 1 (u8s (xs.take n)) := by
  have hl : (xs.take n).length = n := by rw [List.length_take]; omega
  rw [hl]
  refine ⟨by rw [u8s_length, hl]; omega, ?_⟩
  rcases h.2 with ⟨⟨A', e⟩, h0⟩ | ⟨b, o, cap, e, h1, h2, hs⟩
  · simp only [Value.slice.injEq] at e
    obtain ⟨rfl, rfl, rfl⟩ := e
    obtain rfl : n = 0 := by omega
    exact .inl ⟨⟨A, rfl⟩, rfl⟩
  · cases e
    refine .inr ⟨b, o, c, rfl, by omega, h2, fun i v hv => hs i v ?_⟩
    rw [← take_u8s, List.getElem?_take] at hv
    split at hv
    · exact hv
    · cases hv
theorem numL_tk_len (size c : Nat) (xs : List Nat) (hl : xs.length ≤ 16777216) (h0 : 1 ≤ size) : (numL size (tk c xs)).length ≤ 16777216 := by
  rw [numL_length]; unfold tk; split
  · rw [List.length_take]; exact Nat.le_trans (Nat.div_le_self _ _) (Nat.le_trans (Nat.min_le_right _ _) hl)
  · simp
set_option maxHeartbeats 4000000 in
theorem listAtI_any (v : Value) (xs : List Nat) (p m : Nat) (w : World) (hx : Rd w v xs.length 1 (u8s xs)) (hb : ∀ x ∈ xs, x < 256) (hl : xs.length ≤ 16777216) (hp : p ≤ 1099511627776) (hm : m ≤ 4294967296) :
    Calls Tryz.prog 115 #[v, .int .i64 p, .int .i64 1, .int .i64 m] w fun e w' =>
      ∃ u, e = .returned (.tuple #[u, .int .i64 (if numsOk 8 m p xs.length = true then p + 8 * m else 0 : Nat), .bool (numsOk 8 m p xs.length)]) ∧
        w'.ownsRow w.heap.size 42 3 u ((numL 8 (tk (8 * m) (xs.drop p))).map sgn64).length (cellsI ((numL 8 (tk (8 * m) (xs.drop p))).map sgn64)) ∧ Below w.heap.size w w' := by
  have HN := hid (numbersAt_any v xs p 8 m w hx hb hl (.inr rfl) hp hm)
  have hyl : (numL 8 (tk (8 * m) (xs.drop p))).length ≤ 16777216 := numL_tk_len _ _ _ (by rw [List.length_drop]; omega) (by omega)
  have hyv : ∀ x ∈ numL 8 (tk (8 * m) (xs.drop p)), x < 18446744073709551616 := numL_lt (tk_lt (fun x h => hb x (List.mem_of_mem_drop h))) (by omega)
  obtain ⟨A, ca, rfl, _, _, _⟩ := hx.form
  generalize numL 8 (tk (8 * m) (xs.drop p)) = ys at *
  generalize (if numsOk 8 m p xs.length = true then p + 8 * m else 0) = nx at *
  generalize numsOk 8 m p xs.length = ok at *
  have HSNOC := hid (fun j h => take_map_snoc sgn64 0 ys j h)
  obtain ⟨B, hB⟩ : ∃ B, w.heap.size = B := ⟨_, rfl⟩
  have HBE := hid hB
  rw [hB]
  clear hx hb hB
  go_enter Tryz.func115, Tryz.ntmps115
  go_wp2_with fail
  refine HN.out.mono ?_
  rintro e w1 ⟨u, rfl, ho, hb1⟩
  have hf := owns_rd ho
  obtain ⟨A1, c1, rfl, _, _, hA1⟩ := hf.form
  have HRD := hid hf
  have HB1 := hid hb1
  clear ho hf hb1 HN hA1
  go_wp2
  go_loopw [11, 36] (fun u i wr => ∃ j : Nat, j ≤ ys.length ∧ i = .int .i64 j ∧ wr.ownsRow w1.heap.size 42 3 u j (cellsI ((ys.take j).map sgn64)) ∧ Below w1.heap.size w1 wr) (fun _ i _ => ys.length - (intOf i).toNat)
  case atStart => exact ⟨0, by omega, rfl, by simpa [cellsI] using World.ownsRow_nil _ _ _ _, brefl w1⟩
  case round =>
    obtain ⟨j, hj, rfl, hown, hbw⟩ := hrel
    have HOWN := hid hown
    obtain ⟨A2, c2, rfl⟩ := owns3_form hown
    clear hown
    by_cases hlt : j < ys.length
    · obtain ⟨A3, c3, he, _, _, hA3⟩ := (HRD.out.mono hbw).form
      cases he
      obtain ⟨b, o, rfl, hs⟩ := hA3 (by omega)
      have c1' := hs.word j hlt
      have hx64 := hyv (ys.getD j 0) (by simp [List.getD, List.getElem?_eq_getElem hlt])
      have HST := hid (HSNOC.out j hlt)
      have hBw : w1.heap.size ≤ wr.heap.size := hbw.size
      clear hs hA3
      generalize ys.getD j 0 = x at *
      go_wp2_with (at_builtin; refine wpList_append3 rfl (.tmp 40) (.tmp 44) rfl 42 [.bool false, .int .i64 0, .string ByteArray.empty] 32 Tryz.underlying23 Tryz.infoCell rfl rfl rfl HOWN.out hBw (by intro u hu; simp at hu; rcases hu with rfl | rfl | rfl <;> rfl) (by unfold maxLen; omega) (by omega) ?_; intro v' w' ho hb3)
      go_roundw
      case rel =>
        refine ⟨j + 1, by omega, by go_num, ?_, hbw.trans hb3⟩
        rw [HST.out, cellsI_snoc]
        exact ho
      case measure => simp [intOf]; omega
    · obtain rfl : j = ys.length := by omega
      go_wp2
      go_ret3
      refine ⟨_, rfl, ?_, by rw [← HBE.out]; exact bthen HB1.out hbw⟩
      have := HOWN.out
      rw [List.take_length] at this
      rw [List.length_map]
      exact owns3_mono this (by have := HBE.out; have := HB1.out.size; omega)

/-- is there a list of m strings at place p? -/
def strsOk (m p : Nat) (xs : List Nat) : Bool := numsOk 4 m p xs.length && match textEnd 0 (nI (numL 4 (tk (4 * m) (xs.drop p)))) with
  | none => false
  | some sz => decide (sz ≤ ((xs.length - (p + 4 * m) : Nat) : Int))
def strsV (m p : Nat) (xs : List Nat) : List ByteArray := if strsOk m p xs = true then cutS 0 (xs.drop (p + 4 * m)) (nI (numL 4 (tk (4 * m) (xs.drop p)))) else []
def strsNx (m p : Nat) (xs : List Nat) : Nat := if strsOk m p xs = true then p + 4 * m + (tsz (nI (numL 4 (tk (4 * m) (xs.drop p))))).toNat else 0

set_option maxHeartbeats 8000000 in
theorem listAtS_any (v : Value) (xs : List Nat) (p m : Nat) (w : World) (hx : Rd w v xs.length 1 (u8s xs)) (hb : ∀ x ∈ xs, x < 256) (hl : xs.length ≤ 16777216) (hp : p ≤ 1099511627776) (hm : m ≤ 4294967296) :
    Calls Tryz.prog 115 #[v, .int .i64 p, .int .i64 2, .int .i64 m] w fun e w' =>
      ∃ u, e = .returned (.tuple #[u, .int .i64 (strsNx m p xs : Nat), .bool (strsOk m p xs)]) ∧
        w'.ownsRow w.heap.size 42 3 u (strsV m p xs).length (cellsS (strsV m p xs)) ∧ Below w.heap.size w w' := by
  have HN := hid (numbersAt_any v xs p 4 m w hx hb hl (.inl rfl) hp hm)
  have hyl : (numL 4 (tk (4 * m) (xs.drop p))).length ≤ 16777216 := numL_tk_len _ _ _ (by rw [List.length_drop]; omega) (by omega)
  have hyv : ∀ x ∈ numL 4 (tk (4 * m) (xs.drop p)), x < 4294967296 := numL4_lt (tk_lt (fun x h => hb x (List.mem_of_mem_drop h)))
  have HX := hid hx
  obtain ⟨A, ca, rfl, hlc, hcm, hA⟩ := hx.form
  cases hok : numsOk 4 m p xs.length with
  | false =>
    have e1 : strsOk m p xs = false := by unfold strsOk; rw [hok, Bool.false_and]
    have e2 : strsV m p xs = [] := by unfold strsV; rw [e1]; simp
    have e3 : strsNx m p xs = 0 := by unfold strsNx; rw [e1]; simp
    have e4 : numL 4 (tk (4 * m) (xs.drop p)) = [] := by
      unfold numsOk at hok
      have hok' : ¬ (p ≤ xs.length ∧ 4 * m ≤ xs.length - p) := by simpa using hok
      unfold tk numL
      by_cases h2 : p ≤ xs.length
      · rw [if_neg (by rw [List.length_drop]; exact fun h => hok' ⟨h2, h⟩)]; simp
      · rw [List.drop_of_length_le (by omega)]; split <;> simp
    rw [e1, e2, e3]
    rw [hok, e4, if_neg (by simp)] at HN
    clear hx hb hA e1 e2 e3 e4 hyl hyv HX hok
    go_enter Tryz.func115, Tryz.ntmps115
    go_wp2_with fail
    refine HN.out.mono ?_
    rintro e w1 ⟨u, rfl, ho, hb1⟩
    obtain ⟨A1, c1, rfl, _, _, _⟩ := owns_form ho
    have HB1 := hid hb1
    clear ho hb1 HN
    go_wp2
    go_loopw [11, 20, 60] (fun a l i wr => i = .int .i64 0 ∧ a = .slice none 0 0 ∧ l = .int .i64 0 ∧ wr = w1) (fun _ _ i _ => 0)
    case atStart => exact ⟨rfl, rfl, rfl, rfl⟩
    case round =>
      obtain ⟨rfl, rfl, rfl, rfl⟩ := hrel
      go_wp2
      go_ret3
      exact ⟨_, rfl, World.ownsRow_nil _ _ _ _, HB1.out⟩
  | true =>
    have hok' : p ≤ xs.length ∧ 4 * m ≤ xs.length - p := by unfold numsOk at hok; exact of_decide_eq_true hok
    obtain ⟨tx, htx⟩ : ∃ tx, p + 4 * m = tx := ⟨_, rfl⟩
    have htl : tx ≤ xs.length := by omega
    rw [hok, if_pos rfl, htx] at HN
    have hm1 : m ≤ 16777216 := by omega
    obtain ⟨es, hes⟩ : ∃ es, nI (numL 4 (tk (4 * m) (xs.drop p))) = es := ⟨_, rfl⟩
    obtain ⟨S, hS⟩ : ∃ S, strsV m p xs = S := ⟨_, rfl⟩
    obtain ⟨nx, hnx⟩ : ∃ nx, strsNx m p xs = nx := ⟨_, rfl⟩
    obtain ⟨ok, hokk⟩ : ∃ ok, strsOk m p xs = ok := ⟨_, rfl⟩
    have HS := hid hS
    have HNX := hid hnx
    have HOK := hid hokk
    unfold strsV at HS
    unfold strsNx at HNX
    rw [hokk, htx, hes] at HS
    rw [hokk, htx, hes] at HNX
    unfold strsOk at HOK
    rw [hok, Bool.true_and, htx, hes] at HOK
    rw [hS, hnx, hokk]
    generalize hys : numL 4 (tk (4 * m) (xs.drop p)) = ys at *
    have hel : es.length = ys.length := by rw [← hes, nI_length]
    have heg : ∀ j, j < ys.length → es.getD j 0 = ((ys.getD j 0 : Nat) : Int) := by
      intro j hj
      rw [← hes]
      simp [nI, List.getD, List.getElem?_map, List.getElem?_eq_getElem hj]
    have HEG := hid heg
    clear heg hes hS hnx hokk hys hok hok' htx hx hA
    have HYV := hid hyv
    obtain ⟨B, hB⟩ : ∃ B, w.heap.size = B := ⟨_, rfl⟩
    have HBE := hid hB
    rw [hB]
    clear hB hyv
    go_enter Tryz.func115, Tryz.ntmps115
    go_wp2_with fail
    refine HN.out.mono ?_
    rintro e w1 ⟨u, rfl, ho, hb1⟩
    have hf := owns_rd ho
    obtain ⟨A1, c1, rfl, _, _, hA1⟩ := hf.form
    have HRD := hid hf
    have HB1 := hid hb1
    clear ho hf hb1 HN hA1
    go_wp2
    go_loopw [11, 20, 60] (fun a u i wr => ∃ (j : Nat) (l : Nat), j ≤ ys.length ∧ i = .int .i64 j ∧ u = .int .i64 l ∧ Hid (textEnd 0 (es.take j) = some (l : Int)) ∧ l ≤ xs.length - tx ∧ wr.ownsRow w1.heap.size 42 3 a j (cellsS (cutS 0 (xs.drop tx) (es.take j))) ∧ Below w1.heap.size w1 wr) (fun _ _ i _ => ys.length - (intOf i).toNat)
    case atStart => exact ⟨0, 0, by omega, rfl, rfl, hid rfl, by omega, by simpa [cellsS, cutS] using World.ownsRow_nil _ _ _ _, brefl w1⟩
    case round =>
      obtain ⟨j, l, hj, rfl, rfl, hu, hlx, hown, hbw⟩ := hrel
      have HOWN := hid hown
      obtain ⟨A2, c2, rfl⟩ := owns3_form hown
      clear hown
      by_cases hlt : j < ys.length
      · obtain ⟨A3, c3, he, _, _, hA3⟩ := (HRD.out.mono hbw).form
        cases he
        obtain ⟨b, o, rfl, hs⟩ := hA3 (by omega)
        have c1' := hs.word j hlt
        have hx32 := HYV.out (ys.getD j 0) (by simp [List.getD, List.getElem?_eq_getElem hlt])
        have htk : es.take (j + 1) = es.take j ++ [((ys.getD j 0 : Nat) : Int)] := by
          rw [← HEG.out j hlt, List.take_succ_eq_append_getElem (by omega)]; simp [List.getD, List.getElem?_eq_getElem (show j < es.length by omega)]
        have hsn : textEnd 0 (es.take (j + 1)) = if ((ys.getD j 0 : Nat) : Int) < (l : Int) ∨ ((ys.getD j 0 : Nat) : Int) - (l : Int) > 1024 then none else some ((ys.getD j 0 : Nat) : Int) := by
          rw [htk, textEnd_snoc, hu.out]; rfl
        have hcut := cutS_snoc (xs.drop tx) (es.take j) 0 ((ys.getD j 0 : Nat) : Int) (l : Int) hu.out
        rw [← htk] at hcut
        have hall := textEnd_append (es.take (j + 1)) (es.drop (j + 1)) 0
        rw [List.take_append_drop] at hall
        have HBAD : Hid (textEnd 0 (es.take (j + 1)) = none ∨ xs.length - tx < ys.getD j 0 → ok = false) := by
          refine hid fun h => ?_
          have h2 := HOK.out
          cases hte : textEnd 0 es with
          | none => rw [hte] at h2; exact h2.symm
          | some sz =>
            rw [hte] at h2 hall
            rcases h with h | h
            · rw [h] at hall; cases hall
            · by_cases hn : textEnd 0 (es.take (j + 1)) = none
              · rw [hn] at hall; cases hall
              · rw [hsn] at hn hall
                split at hn
                · exact absurd rfl hn
                · rename_i hc
                  rw [if_neg hc] at hall
                  have := textEnd_le _ _ _ hall.symm
                  rw [← h2]
                  exact decide_eq_false (by omega)
        have HSN := hid hsn
        have HCUT := hid hcut
        have hBw : w1.heap.size ≤ wr.heap.size := hbw.size
        have HXW := hid (HX.out.mono (bthen HB1.out hbw))
        clear hs hA3 hsn hcut hall htk
        generalize ys.getD j 0 = x at *
        by_cases hbad : x < l ∨ l + 1024 < x ∨ xs.length - tx < x
        · have hof : ok = false := HBAD.out (by
            rcases hbad with h | h | h
            · exact .inl (by rw [HSN.out, if_pos (.inl (by omega))])
            · exact .inl (by rw [HSN.out, if_pos (.inr (by omega))])
            · exact .inr h)
          subst hof
          have hS0 := HS.out
          have hN0 := HNX.out
          rw [if_neg (by simp)] at hS0 hN0
          subst hS0
          subst hN0
          by_cases h1 : x < l
          · have h1' : (x : Int) < (l : Int) := by omega
            go_wp2
            go_ret3
            exact ⟨_, rfl, World.ownsRow_nil _ _ _ _, by rw [← HBE.out]; exact bthen HB1.out hbw⟩
          · have h1' : ¬ (x : Int) < (l : Int) := by omega
            by_cases h2 : l + 1024 < x
            · have h2' : (x : Int) > (l : Int) + 1024 := by omega
              go_wp2
              go_ret3
              exact ⟨_, rfl, World.ownsRow_nil _ _ _ _, by rw [← HBE.out]; exact bthen HB1.out hbw⟩
            · have h2' : ¬ (x : Int) > (l : Int) + 1024 := by omega
              have h3' : (x : Int) > (xs.length : Int) - (tx : Int) := by omega
              go_wp2
              go_ret3
              exact ⟨_, rfl, World.ownsRow_nil _ _ _ _, by rw [← HBE.out]; exact bthen HB1.out hbw⟩
        · have h1' : ¬ (x : Int) < (l : Int) := by omega
          have h2' : ¬ (x : Int) > (l : Int) + 1024 := by omega
          have h3' : ¬ (x : Int) > (xs.length : Int) - (tx : Int) := by omega
          obtain ⟨q, hq⟩ : ∃ q, tx + l = q := ⟨_, rfl⟩
          have hq1 : (tx : Int) + (l : Int) = (q : Int) := by omega
          obtain ⟨q2, hq2⟩ : ∃ q2, tx + x = q2 := ⟨_, rfl⟩
          have hq2' : (tx : Int) + (x : Int) = (q2 : Int) := by omega
          have hqq : q ≤ q2 := by omega
          have hqx : q2 ≤ xs.length := by omega
          have HCUT2 : Hid (cutS 0 (xs.drop tx) (es.take (j + 1)) = cutS 0 (xs.drop tx) (es.take j) ++ [ofBytes ((xs.drop q).take (q2 - q))]) := hid (by
            rw [HCUT.out, List.drop_drop]
            congr 3
            rw [show ((x : Int) - (l : Int)).toNat = q2 - q by omega, show tx + ((l : Nat) : Int).toNat = q by rw [Int.toNat_natCast]; exact hq])
          have HCQ := hid hcm
          clear HCUT HBAD hq hq2 hcm
          by_cases hcq : ca = q
          · obtain rfl : q2 = q := by omega
            obtain rfl : q2 = ca := by omega
            have hcv := run_str (xs := []) (show Rd wr (.slice A 0 0) ([] : List Nat).length 1 (u8s []) from rd_nil wr A)
            have hof : ofBytes ((xs.drop q2).take (q2 - q2)) = ofBytes [] := by simp
            rw [hof] at HCUT2
            generalize ofBytes [] = SS at *
            go_wp2_with (at_builtin; refine wpList_append3 rfl (.tmp 83) (.tmp 94) rfl 42 [.bool false, .int .i64 0, .string ByteArray.empty] 32 Tryz.underlying23 Tryz.infoCell rfl rfl rfl HOWN.out hBw (by intro u hu; simp at hu; rcases hu with rfl | rfl | rfl <;> rfl) (by unfold maxLen; omega) (by omega) ?_; intro v' w' ho hb3)
            go_roundw
            case rel =>
              refine ⟨j + 1, x, by omega, by go_num, rfl, hid (by rw [HSN.out, if_neg (by omega)]), by omega, ?_, hbw.trans hb3⟩
              rw [HCUT2.out, cellsS_snoc]
              exact ho
            case measure => simp [intOf]; omega
          · have hcv := run_str ((HXW.out.rear q (by omega) hcq).short (q2 - q) (by rw [List.length_drop]; omega))
            generalize ofBytes ((xs.drop q).take (q2 - q)) = SS at *
            go_wp2_with (at_builtin; refine wpList_append3 rfl (.tmp 83) (.tmp 94) rfl 42 [.bool false, .int .i64 0, .string ByteArray.empty] 32 Tryz.underlying23 Tryz.infoCell rfl rfl rfl HOWN.out hBw (by intro u hu; simp at hu; rcases hu with rfl | rfl | rfl <;> rfl) (by unfold maxLen; omega) (by omega) ?_; intro v' w' ho hb3)
            go_roundw
            case rel =>
              refine ⟨j + 1, x, by omega, by go_num, rfl, hid (by rw [HSN.out, if_neg (by omega)]), by omega, ?_, hbw.trans hb3⟩
              rw [HCUT2.out, cellsS_snoc]
              exact ho
            case measure => simp [intOf]; omega
      · obtain rfl : j = ys.length := by omega
        have htake : es.take ys.length = es := by rw [← hel, List.take_length]
        have hu2 := hu.out
        rw [htake] at hu2
        have hof : ok = true := by
          have h2 := HOK.out
          rw [hu2] at h2
          rw [← h2]
          exact decide_eq_true (by omega)
        subst hof
        have hS0 := HS.out
        have hN0 := HNX.out
        rw [if_pos rfl] at hS0 hN0
        have hts : tsz es = (l : Int) := by rw [tsz, hu2]; rfl
        rw [hts, Int.toNat_natCast] at hN0
        have hown2 := HOWN.out
        rw [htake, hS0] at hown2
        have hSl : S.length = ys.length := by rw [← hS0, cutS_length, hel]
        have HO2 := hid hown2
        clear hown2 hu2 hS0 HOWN HOK HS HNX
        subst hN0
        go_wp2
        go_ret3
        refine ⟨_, rfl, ?_, by rw [← HBE.out]; exact bthen HB1.out hbw⟩
        rw [hSl]
        exact owns3_mono HO2.out (by have := HBE.out; have := HB1.out.size; omega)
end Go.Proofs.YthonbfojpbfmgaaGreatDoor

/- The plain answer: values as pairs, their order, lists of them whatever the kind. -/
set_option linter.unusedVariables false
set_option linter.unusedSimpArgs false
set_option linter.unnecessarySimpa false
set_option maxRecDepth 100000
namespace Go.Proofs.YthonbfojpbfmgaaGreatDoor
open Go.RowKit

/-- the cells of values, each by its integer and its string -/
def cellsP (vs : List (Int × ByteArray)) : List Value := vs.flatMap fun v => [.bool false, .int .i64 v.1, .string v.2]
def dfP : Int × ByteArray := (0, default)
theorem cellsP_snoc (vs : List (Int × ByteArray)) (v : Int × ByteArray) : cellsP (vs ++ [v]) = cellsP vs ++ [.bool false, .int .i64 v.1, .string v.2] := by simp [cellsP]
theorem cellsP_cons (v : Int × ByteArray) (vs : List (Int × ByteArray)) : cellsP (v :: vs) = [.bool false, .int .i64 v.1, .string v.2] ++ cellsP vs := by simp [cellsP]
theorem cellsP_get (vs : List (Int × ByteArray)) : ∀ k, k < vs.length → (cellsP vs)[k * 3]? = some (.bool false) ∧ (cellsP vs)[k * 3 + 1]? = some (.int .i64 (vs.getD k dfP).1) ∧ (cellsP vs)[k * 3 + 2]? = some (.string (vs.getD k dfP).2) := by
  induction vs with
  | nil => intro k hk; simp at hk
  | cons v r ih =>
    intro k hk
    rw [cellsP_cons]
    cases k with
    | zero => simp
    | succ k =>
      obtain ⟨h1, h2, h3⟩ := ih k (by simpa using hk)
      rw [List.getElem?_append_right (by simp; omega), List.getElem?_append_right (by simp; omega), List.getElem?_append_right (by simp; omega)]
      simp only [List.length_cons, List.length_nil, List.getD_cons_succ]
      rw [show (k + 1) * 3 - (0 + 1 + 1 + 1) = k * 3 by omega, show (k + 1) * 3 + 1 - (0 + 1 + 1 + 1) = k * 3 + 1 by omega, show (k + 1) * 3 + 2 - (0 + 1 + 1 + 1) = k * 3 + 2 by omega]
      exact ⟨h1, h2, h3⟩
def pI (x : Int) : Int × ByteArray := (x, ByteArray.empty)
def pS (x : ByteArray) : Int × ByteArray := (0, x)
theorem cellsI_P (xs : List Int) : cellsI xs = cellsP (xs.map pI) := by
  induction xs with
  | nil => rfl
  | cons x r ih => rw [List.map_cons, cellsP_cons, ← ih]; rfl
theorem cellsS_P (xs : List ByteArray) : cellsS xs = cellsP (xs.map pS) := by
  induction xs with
  | nil => rfl
  | cons x r ih => rw [List.map_cons, cellsP_cons, ← ih]; rfl

def ordP (x y : Int × ByteArray) : Int := if x.1 < y.1 then -1 else if y.1 < x.1 then 1 else ordS x.2 y.2
set_option maxHeartbeats 1000000 in
theorem order_any (x y : Int × ByteArray) (w : World) : Calls Tryz.prog 64 #[.agg #[.bool false, .int .i64 x.1, .string x.2], .agg #[.bool false, .int .i64 y.1, .string y.2]] w fun e w' => e = .returned (.int .i64 (ordP x y)) ∧ Below w.heap.size w w' := by
  obtain ⟨a, s⟩ := x
  obtain ⟨b, t⟩ := y
  simp only
  have hord : ordP (a, s) (b, t) = if a < b then -1 else if b < a then 1 else ordS s t := rfl
  rw [hord]
  clear hord
  obtain ⟨lt, hlt⟩ : ∃ lt, Op.bytesLess s.toList t.toList = lt := ⟨_, rfl⟩
  obtain ⟨eq, heq⟩ : ∃ eq, (s.toList == t.toList) = eq := ⟨_, rfl⟩
  have hord : ordS s t = if lt = true then -1 else if (!(lt || eq)) = true then 1 else 0 := by unfold ordS ltS eqS; rw [hlt, heq]
  rw [hord]
  clear hord
  go_enter Tryz.func64, Tryz.ntmps64
  by_cases h1 : a < b
  · rw [if_pos h1]
    go_wp2
    go_ret
    exact ⟨rfl, (((brefl w).alloc (Nat.le_refl _) _).alloc (by simp) _)⟩
  · rw [if_neg h1]
    by_cases h2 : b < a
    · rw [if_pos h2]
      have h2' : a > b := h2
      go_wp2
      go_ret
      exact ⟨rfl, (((brefl w).alloc (Nat.le_refl _) _).alloc (by simp) _)⟩
    · rw [if_neg h2]
      have h2' : ¬ a > b := h2
      cases lt
      · cases eq
        · go_wp2
          go_ret
          exact ⟨rfl, (((brefl w).alloc (Nat.le_refl _) _).alloc (by simp) _)⟩
        · go_wp2
          go_ret
          exact ⟨rfl, (((brefl w).alloc (Nat.le_refl _) _).alloc (by simp) _)⟩
      · go_wp2
        go_ret
        exact ⟨rfl, (((brefl w).alloc (Nat.le_refl _) _).alloc (by simp) _)⟩

/-- the list of m values of a kind at place p -/
def listOk (kd : Nat) (m p : Nat) (xs : List Nat) : Bool := if kd = 1 then numsOk 8 m p xs.length else strsOk m p xs
def listNx (kd : Nat) (m p : Nat) (xs : List Nat) : Nat := if kd = 1 then (if numsOk 8 m p xs.length = true then p + 8 * m else 0) else strsNx m p xs
def listP (kd : Nat) (m p : Nat) (xs : List Nat) : List (Int × ByteArray) := if kd = 1 then ((numL 8 (tk (8 * m) (xs.drop p))).map sgn64).map pI else (strsV m p xs).map pS
theorem listAt_any (kd : Nat) (hkd : kd = 1 ∨ kd = 2) (v : Value) (xs : List Nat) (p m : Nat) (w : World) (hx : Rd w v xs.length 1 (u8s xs)) (hb : ∀ x ∈ xs, x < 256) (hl : xs.length ≤ 16777216) (hp : p ≤ 1099511627776) (hm : m ≤ 4294967296) :
    Calls Tryz.prog 115 #[v, .int .i64 p, .int .i64 kd, .int .i64 m] w fun e w' =>
      ∃ u, e = .returned (.tuple #[u, .int .i64 (listNx kd m p xs : Nat), .bool (listOk kd m p xs)]) ∧ w'.ownsRow w.heap.size 42 3 u (listP kd m p xs).length (cellsP (listP kd m p xs)) ∧ Below w.heap.size w w' := by
  rcases hkd with rfl | rfl
  · refine (listAtI_any v xs p m w hx hb hl hp hm).mono ?_
    rintro e w' ⟨u, h1, h2, h3⟩
    refine ⟨u, ?_, ?_, h3⟩
    · unfold listNx listOk; rw [if_pos rfl, if_pos rfl]; exact h1
    · unfold listP; rw [if_pos rfl, List.length_map, ← cellsI_P]; exact h2
  · refine (listAtS_any v xs p m w hx hb hl hp hm).mono ?_
    rintro e w' ⟨u, h1, h2, h3⟩
    refine ⟨u, ?_, ?_, h3⟩
    · unfold listNx listOk; rw [if_neg (by decide), if_neg (by decide)]; exact h1
    · unfold listP; rw [if_neg (by decide), List.length_map, ← cellsS_P]; exact h2
end Go.Proofs.YthonbfojpbfmgaaGreatDoor
