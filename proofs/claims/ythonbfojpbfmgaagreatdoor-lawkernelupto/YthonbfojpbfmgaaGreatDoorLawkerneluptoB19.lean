/- bitvec's Dense and the plain answer's. -/
import Derived.Test.YthonbfojpbfmgaaGreatDoorLawkerneluptoB18
import Derived.Test.YthonbfojpbfmgaaGreatDoorLawkerneluptoB3
import Derived.Test.YthonbfojpbfmgaaGreatDoorLawkerneluptoB17
set_option linter.unusedVariables false
set_option linter.unusedSimpArgs false
set_option linter.unnecessarySimpa false
set_option maxRecDepth 20000
namespace Go.Proofs.YthonbfojpbfmgaaGreatDoor
open Go.RowKit

/-- from least on, strictly ascending, below n -/
def ascB (n : Int) : Int → List Int → Bool
  | _, [] => true
  | least, p :: ps => decide (least ≤ p) && decide (p < n) && ascB n (p + 1) ps
def denseOk (n : Int) (ps : List Int) : Bool := decide (0 ≤ n ∧ n ≤ 65536) && ascB n 0 ps
def denseR (n : Int) (ps : List Int) : List Nat := if denseOk n ps = true then bmL ((List.range n.toNat).map fun i : Nat => decide ((i : Int) ∈ ps)) else []
def DInv (m : Nat) (ps : List Int) (k : Nat) (least : Int) (f : Nat → Bool) : Prop :=
  ascB m 0 ps = ascB m least (ps.drop k) ∧ ∀ j : Nat, f j = decide ((j : Int) ∈ ps.take k)
theorem dinv_start (m : Nat) (ps : List Int) (f : Nat → Bool) (h : ∀ j, f j = false) : DInv m ps 0 0 f := ⟨by simp, fun j => by simp [h j]⟩
theorem drop_at (ps : List Int) (k : Nat) (hk : k < ps.length) : ps.drop k = ps.getD k 0 :: ps.drop (k + 1) := by
  rw [List.drop_eq_getElem_cons hk]; simp [List.getD, List.getElem?_eq_getElem hk]
theorem dinv_fail {m k : Nat} {ps : List Int} {least p : Int} {f : Nat → Bool} (hk : k < ps.length) (hp : ps.getD k 0 = p) (h : DInv m ps k least f) (hb : p < least ∨ (m : Int) ≤ p) : ascB m 0 ps = false := by
  rw [h.1, drop_at ps k hk, hp, ascB]
  rcases hb with h1 | h1
  · simp [show ¬ least ≤ p from by omega]
  · simp [show ¬ p < (m : Int) from by omega]
theorem dinv_step {m k q : Nat} {ps : List Int} {least : Int} {f f' : Nat → Bool} (hk : k < ps.length) (hp : ps.getD k 0 = (q : Int)) (h : DInv m ps k least f) (h1 : least ≤ q) (h2 : q < m) (hf : ∀ j, f' j = (f j || decide (j = q))) : DInv m ps (k + 1) ((q : Int) + 1) f' := by
  refine ⟨?_, fun j => ?_⟩
  · rw [h.1, drop_at ps k hk, hp, ascB]
    simp [h1, show (q : Int) < (m : Int) from by omega]
  · have e : ps[k] = (q : Int) := by rw [← hp]; simp [List.getD, List.getElem?_eq_getElem hk]
    rw [hf, h.2, List.take_succ_eq_append_getElem hk, e]
    by_cases hj : j = q
    · simp [hj]
    · simp [hj, show ¬ (j : Int) = (q : Int) from by omega]
theorem dinv_end {m : Nat} {ps : List Int} {least : Int} {f : Nat → Bool} (h : DInv m ps ps.length least f) : ascB m 0 ps = true ∧ ∀ j : Nat, f j = decide ((j : Int) ∈ ps) := by
  refine ⟨by rw [h.1, List.drop_length, ascB], fun j => by rw [h.2, List.take_length]⟩
theorem asc_lt {n : Int} : ∀ {least : Int} {ps : List Int}, ascB n least ps = true → ∀ p ∈ ps, least ≤ p ∧ p < n
  | _, [], _, p, hp => by cases hp
  | least, q :: ps, h, p, hp => by
    simp only [ascB, Bool.and_eq_true, decide_eq_true_eq] at h
    rcases List.mem_cons.1 hp with rfl | hp
    · exact ⟨h.1.1, h.1.2⟩
    · have := asc_lt h.2 p hp
      omega
theorem dense_bm (m : Nat) (ps : List Int) (ys : List Nat) (hlen : ys.length = L.nWords 1 m) (hv : ∀ x ∈ ys, x < 18446744073709551616) (hok : ascB m 0 ps = true) (hb : ∀ j : Nat, bitOf ys j = decide ((j : Int) ∈ ps)) :
    ys = bmL ((List.range m).map fun i : Nat => decide ((i : Int) ∈ ps)) := by
  obtain ⟨h1, h2, h3⟩ := bmL_isBm ((List.range m).map fun i : Nat => decide ((i : Int) ∈ ps))
  simp only [List.length_map, List.length_range] at h1 h3
  refine bm_ext (hlen.trans h1.symm) hv h2 (fun i hi => ?_)
  rw [hb, h3 i (by rw [h1, ← hlen]; exact hi)]
  by_cases hm : i < m
  · simp [hm, List.getD]
  · have : ¬ (i : Int) ∈ ps := fun hin => by have := (asc_lt hok _ hin).2; omega
    simp [hm, this]
theorem bitOf_zeros (k j : Nat) : bitOf (List.replicate k 0) j = false := by
  unfold bitOf
  have : (List.replicate k 0).getD (j / 64) 0 = 0 := by
    simp only [List.getD, List.getElem?_replicate]; split <;> rfl
  rw [this, Nat.zero_testBit]

set_option maxHeartbeats 2000000 in
theorem Dense_any (v : Value) (ps : List Int) (n : Int) (w : World) (hx : Rd w v ps.length 1 (i64s ps)) (hl : ps.length ≤ maxLen) :
    Calls Tryz.prog 173 #[v, .int .i64 n] w fun e w' => ∃ r, e = .returned (.tuple #[r, .bool (denseOk n ps)]) ∧ w'.ownsRow w.heap.size 40 1 r (denseR n ps).length (u64s (denseR n ps)) ∧ Below w.heap.size w w' := by
  unfold maxLen at hl
  obtain ⟨A, ca, rfl, hlc, hcm, hA⟩ := hx.form
  clear hx hlc hcm
  obtain ⟨ok, hok⟩ : ∃ ok, denseOk n ps = ok := ⟨_, rfl⟩
  obtain ⟨R, hR⟩ : ∃ R, denseR n ps = R := ⟨_, rfl⟩
  rw [hok, hR]
  have HOK := hid hok; have HR := hid hR
  clear hok hR
  have HNO : Hid (denseOk n ps = false → R = [] ∧ ok = false) := hid (fun h => ⟨by rw [← HR.out, denseR, if_neg (by rw [h]; simp)], by rw [← HOK.out, h]⟩)
  go_enter Tryz.func173, Tryz.ntmps173
  by_cases h0 : n < 0
  · go_wp2
    go_ret2
    have h := HNO.out (by unfold denseOk; simp; omega)
    exact ⟨.slice none 0 0, by rw [h.2]; rfl, by rw [h.1]; exact World.ownsRow_nil _ _ _ _, Below.refl _ _⟩
  by_cases h1 : 65536 < n
  · go_wp2
    go_ret2
    have h := HNO.out (by unfold denseOk; simp; omega)
    exact ⟨.slice none 0 0, by rw [h.2]; rfl, by rw [h.1]; exact World.ownsRow_nil _ _ _ _, Below.refl _ _⟩
  obtain ⟨m, rfl⟩ := Int.eq_ofNat_of_zero_le (show 0 ≤ n by omega)
  have hm : m ≤ 65536 := by omega
  have HASC : Hid (ascB m 0 ps = false → R = [] ∧ ok = false) := hid (fun h => HNO.out (by unfold denseOk; simp [h]))
  have HYES : Hid (ascB m 0 ps = true → R = bmL ((List.range m).map fun i : Nat => decide ((i : Int) ∈ ps)) ∧ ok = true) := hid (fun h => by
    have h2 : denseOk (m : Int) ps = true := by unfold denseOk; simp [h]; omega
    exact ⟨by rw [← HR.out, denseR, if_pos h2, Int.toNat_natCast], by rw [← HOK.out, h2]⟩)
  have hml := L.nWords_le (w := 1) (n := m) (by omega)
  have HNW := hid (nWords1_le m)
  have HBW := hid (bitWords_any m w hm)
  obtain ⟨q, hq⟩ : ∃ q, L.nWords 1 m = q := ⟨_, rfl⟩
  rw [hq] at hml HNW HBW
  have HQ := hid hq
  clear hq HNO
  go_wp2_with (go_at_call 91; refine HBW.out.mono ?_; rintro e w' ⟨rfl, hw⟩; replace hw := hw.symm; subst hw)
  refine upon_make 40 (.int .u64 0) 8 Tryz.underlying28 Tryz.info45 rfl q (by omega) (by omega) (by omega) (by unfold maxLen; omega) ?_
  intro w1 hrow hb1 hsz1
  have HZ1 := hid hsz1
  have hrow2 : Row w1 w.heap.size 40 (u64s (List.replicate q 0)) := by
    have e : u64s (List.replicate q 0) = List.replicate q (.int .u64 0) := by simp [u64s, u64]
    rw [e]; exact hrow
  have HROW := hid hrow2
  clear hsz1 hrow hrow2
  go_wp2
  go_loopw [7, 21] (fun l i wr => ∃ (k : Nat) (least : Int) (ys : List Nat), k ≤ ps.length ∧ i = .int .i64 k ∧ l = .int .i64 least ∧ 0 ≤ least ∧ least ≤ m ∧ Hid (DInv m ps k least (bitOf ys)) ∧ Hid (ys.length = q ∧ ∀ x ∈ ys, x < 18446744073709551616) ∧ Hid (Row wr w.heap.size 40 (u64s ys)) ∧ Below w.heap.size w wr ∧ Hid (wr.heap.size = w.heap.size + 1)) (fun _ i _ => ps.length - (intOf i).toNat)
  case atStart => exact ⟨0, 0, List.replicate q 0, by omega, rfl, rfl, by omega, by omega, hid (dinv_start _ _ _ (bitOf_zeros q)), hid ⟨by simp, by intro x hx; rw [List.eq_of_mem_replicate hx]; omega⟩, HROW, hb1, HZ1⟩
  case round =>
    obtain ⟨k, least, ys, hk, rfl, rfl, hl0, hlm, HD, HYS, HRW, hb, HZ⟩ := hrel
    clear HROW hb1 HZ1
    by_cases hlt : k < ps.length
    · obtain ⟨b, o, rfl, hs⟩ := hA (by omega)
      have c1 := (hs.mono (hb.mono (Nat.le_refl _))).int k hlt
      obtain ⟨p, hp⟩ : ∃ p, ps.getD k 0 = p := ⟨_, rfl⟩
      rw [hp] at c1
      have HP := hid hp
      clear hs hA hp
      by_cases hb0 : p < least
      · go_wp2
        go_ret2
        have h := HASC.out (dinv_fail hlt HP.out HD.out (.inl hb0))
        exact ⟨.slice none 0 0, by rw [h.2]; rfl, by rw [h.1]; exact World.ownsRow_nil _ _ _ _, hb⟩
      by_cases hbm : (m : Int) ≤ p
      · go_wp2
        go_ret2
        have h := HASC.out (dinv_fail hlt HP.out HD.out (.inr hbm))
        exact ⟨.slice none 0 0, by rw [h.2]; rfl, by rw [h.1]; exact World.ownsRow_nil _ _ _ _, hb⟩
      obtain ⟨j, rfl⟩ := Int.eq_ofNat_of_zero_le (show 0 ≤ p by omega)
      have HSB := hid (setBit_any w.heap.size q q j ys wr HRW.out HYS.out.1 (Nat.le_refl _) (by have := HNW.out; omega) HYS.out.2 (by omega))
      have HBS := hid (bitOf_set ys j (by have := HNW.out; have := HYS.out.1; omega))
      have HS6 := hid (set_lt64 ys HYS.out.2 j)
      go_wp2_with (go_at_call 99; refine HSB.out.mono ?_; rintro e w2 ⟨rfl, hr2, hb2, hz2, -⟩; have HR2 := hid hr2; have HZ2 := hid hz2; clear hr2 hz2)
      go_roundw
      case rel =>
        refine ⟨k + 1, (j : Int) + 1, _, by omega, by go_num, rfl, by omega, by omega, hid (dinv_step hlt HP.out HD.out (by omega) (by omega) HBS.out), hid ⟨by rw [List.length_set]; exact HYS.out.1, HS6.out⟩, HR2, hb.trans hb2, hid (by rw [HZ2.out]; exact HZ.out)⟩
      case measure => simp [intOf]; omega
    · go_wp2
      go_ret2
      obtain rfl : k = ps.length := by omega
      have he := dinv_end HD.out
      have h := HYES.out he.1
      have hbm := dense_bm m ps ys (by rw [HYS.out.1, HQ.out]) HYS.out.2 he.1 he.2
      refine ⟨_, by rw [h.2]; rfl, ?_, hb⟩
      rw [h.1, ← hbm, HYS.out.1]
      exact HRW.out.owns (Nat.le_refl _) (by rw [u64s_length, HYS.out.1]) (by unfold maxLen; omega)
end Go.Proofs.YthonbfojpbfmgaaGreatDoor

/- Package codec: cells parted into values and the bitmap of the NULLs (integers). -/
set_option linter.unusedVariables false
set_option linter.unusedSimpArgs false
set_option linter.unnecessarySimpa false
set_option maxRecDepth 100000
namespace Go.Proofs.YthonbfojpbfmgaaGreatDoor
open Go.RowKit

/-- the rows of the NULLs -/
def nullIx (cs : List C3) (t : Nat) : List Nat := (List.range t).filter fun j => (cs.getD j C3.df).n
theorem nullIx_succ (cs : List C3) (t : Nat) : nullIx cs (t + 1) = if (cs.getD t C3.df).n = true then nullIx cs t ++ [t] else nullIx cs t := by
  unfold nullIx; rw [List.range_succ, List.filter_append]
  by_cases h : (cs.getD t C3.df).n = true
  · rw [if_pos h, List.filter_cons_of_pos (p := fun j => (cs.getD j C3.df).n) h]; rfl
  · rw [if_neg h, List.filter_cons_of_neg (p := fun j => (cs.getD j C3.df).n) h, List.filter_nil, List.append_nil]
theorem nullIx_len (cs : List C3) (t : Nat) : (nullIx cs t).length ≤ t := by
  have h := List.length_filter_le (fun j => (cs.getD j C3.df).n) (List.range t)
  rwa [List.length_range] at h
theorem asc_of_pair (n : Int) : ∀ (ps : List Nat) (least : Nat), ps.Pairwise (· < ·) → (∀ p ∈ ps, least ≤ p ∧ (p : Int) < n) → ascB n least (ps.map Int.ofNat) = true
  | [], _, _, _ => rfl
  | p :: ps, least, h, hb => by
    rw [List.map_cons]
    unfold ascB
    have h1 := hb p List.mem_cons_self
    have h2 := asc_of_pair n ps (p + 1) (List.pairwise_cons.1 h).2 (fun q hq => ⟨(List.pairwise_cons.1 h).1 q hq, (hb q (List.mem_cons_of_mem _ hq)).2⟩)
    have e1 : Int.ofNat p = (p : Int) := rfl
    rw [e1, decide_eq_true (by omega), decide_eq_true h1.2, show (p : Int) + 1 = ((p + 1 : Nat) : Int) by omega, h2]; rfl
theorem nulls_ok (cs : List C3) (hl : cs.length ≤ 65536) : denseOk cs.length ((nullIx cs cs.length).map Int.ofNat) = true := by
  unfold denseOk
  rw [decide_eq_true (by omega), Bool.true_and]
  refine asc_of_pair _ _ 0 (List.Pairwise.filter _ List.pairwise_lt_range) (fun p hp => ?_)
  simp only [nullIx, List.mem_filter, List.mem_range] at hp
  exact ⟨Nat.zero_le _, by omega⟩
theorem nulls_dense (cs : List C3) (hl : cs.length ≤ 65536) : denseR cs.length ((nullIx cs cs.length).map Int.ofNat) = bmL (cs.map C3.n) := by
  unfold denseR
  rw [if_pos (nulls_ok cs hl)]
  congr 1
  apply List.ext_getElem
  · simp
  · intro i h1 h2
    simp only [Int.toNat_natCast, List.length_map, List.length_range] at h1
    simp only [List.getElem_map, List.getElem_range]
    have e : ((i : Int) ∈ (nullIx cs cs.length).map Int.ofNat) ↔ cs[i].n = true := by
      simp only [List.mem_map, nullIx, List.mem_filter, List.mem_range]
      constructor
      · rintro ⟨a, ⟨ha, hb⟩, hc⟩
        obtain rfl : a = i := by have h : Int.ofNat a = (a : Int) := rfl; omega
        simpa [List.getD, List.getElem?_eq_getElem h1] using hb
      · intro h
        exact ⟨i, ⟨h1, by simpa [List.getD, List.getElem?_eq_getElem h1] using h⟩, rfl⟩
    by_cases h : cs[i].n = true
    · rw [decide_eq_true (e.2 h), h]
    · rw [decide_eq_false (fun h2 => h (e.1 h2))]; simpa using h
set_option maxHeartbeats 1000000 in
theorem ValueGen_I (n : Bool) (x : Int) (s : ByteArray) (w : World) : Calls Tryz.prog 273 #[.agg #[], .agg #[.bool n, .int .i64 x, .string s]] w fun e w' => e = .returned (.int .i64 x) ∧ Below w.heap.size w w' := by
  go_enter Tryz.func273, Tryz.ntmps273
  go_wp2
  go_ret
  exact ⟨rfl, ((brefl w).alloc (Nat.le_refl _) _).alloc (by simp) _⟩
set_option maxHeartbeats 8000000 in
theorem splitI_any (u : Value) (cs : List C3) (w : World) (hu : Rd w u cs.length 3 (cells3 cs)) (hl : cs.length ≤ 65536) :
    Calls Tryz.prog 135 #[.iface 68 (.agg #[]), u] w fun e w' => ∃ r1 r2, e = .returned (.tuple #[r1, r2]) ∧
      Rd w' r1 ((valsOf cs).map Prod.fst).length 1 (i64s ((valsOf cs).map Prod.fst)) ∧ Rd w' r2 (bmL (cs.map C3.n)).length 1 (u64s (bmL (cs.map C3.n))) ∧ Below w.heap.size w w' := by
  have HU := hid hu
  obtain ⟨A1, c1, rfl, _, _, _⟩ := hu.form
  have hdn := nulls_dense cs hl
  obtain ⟨VR, hVR⟩ : ∃ VR, (valsOf cs).map Prod.fst = VR := ⟨_, rfl⟩
  obtain ⟨NB, hNB⟩ : ∃ NB, bmL (cs.map C3.n) = NB := ⟨_, rfl⟩
  rw [hVR, hNB]
  rw [hNB] at hdn
  have HDN := hid hdn
  have HVR := hid hVR
  have HVL0 : Hid ((valsOf cs).length = VR.length) := hid (by rw [← hVR, List.length_map])
  clear hu hdn hVR hNB
  go_enter Tryz.func135, Tryz.ntmps135
  go_wp2_with fail
  go_loopw [6, 7, 14] (fun fv ev i wr => ∃ t : Nat, t ≤ cs.length ∧ i = .int .i64 t ∧ Hid (wr.ownsRow w.heap.size 3 1 ev (nullIx cs t).length (i64s ((nullIx cs t).map Int.ofNat))) ∧ Hid (wr.ownsRow w.heap.size 2 1 fv (valsOf (cs.take t)).length (i64s ((valsOf (cs.take t)).map Prod.fst))) ∧ Hid (Apart ev fv) ∧ Hid (Below w.heap.size w wr)) (fun _ _ i _ => cs.length - (intOf i).toNat)
  case atStart => exact ⟨0, by omega, rfl, hid (World.ownsRow_nil _ _ _ _), hid (World.ownsRow_nil _ _ _ _), hid (fun k h => by cases h), hid (brefl w)⟩
  case round =>
    obtain ⟨t, ht, rfl, HE, HF, HAP, HB⟩ := hrel
    by_cases hlt : t < cs.length
    · obtain ⟨b, o, rfl, hcells⟩ := (HU.out.mono HB.out).at3 (by omega)
      obtain ⟨l0, l1, l2⟩ := hcells t hlt
      clear hcells
      have HSE := hid (nullIx_succ cs t)
      have HSV := hid (valsOf_snoc (cs.take t) (cs.getD t C3.df))
      rw [← take_snoc cs C3.df t hlt] at HSV
      have HML := hid (nullIx_len cs t)
      have HVL := hid (valsOf_take_len cs t ht)
      generalize nullIx cs t = es at *
      generalize valsOf (cs.take t) = vs at *
      generalize cs.getD t C3.df = X at *
      obtain ⟨xn, xi, xs'⟩ := X
      simp only at l0 l1 l2 HSE HSV
      obtain ⟨m, hm⟩ : ∃ m, es.length = m := ⟨_, rfl⟩
      have HM := hid hm
      obtain ⟨k, hk⟩ : ∃ k, vs.length = k := ⟨_, rfl⟩
      have HKV := hid hk
      simp only [hm, hk] at HE HF HML HVL
      have hm9 : m ≤ 65536 := by have := HML.out; omega
      have hk9 : k ≤ 65536 := by have := HVL.out; omega
      clear hm hk
      obtain ⟨E1, ce1, rfl, _⟩ := owns_form HE.out
      obtain ⟨F1, cf1, rfl, _⟩ := owns_form HF.out
      have HBA := hid ((brefl wr).alloc (Nat.le_refl _) (.cells #[.bool xn, .int .i64 xi, .string xs'] 42))
      have HRW : Hid (Row (wr.alloc (.cells #[.bool xn, .int .i64 xi, .string xs'] 42)) wr.heap.size 42 [.bool xn, .int .i64 xi, .string xs']) := hid (by unfold Row; rw [heap_alloc_new])
      have HB4 := hid (HB.out.trans (HBA.out.mono HB.out.size))
      have HE4 := hid (owns_below HE.out HBA.out)
      have HF4 := hid (owns_below HF.out HBA.out)
      have HSZ4 := hid HB4.out.size
      go_upto_region 6 with fail
      generalize wr.alloc (.cells #[.bool xn, .int .i64 xi, .string xs'] 42) = w4 at *
      have k0 : w4.cell? ⟨wr.heap.size, 0, none⟩ = some (.bool xn) := by rw [HRW.out.cell]; rfl
      have k1 : w4.cell? ⟨wr.heap.size, 1, none⟩ = some (.int .i64 xi) := by rw [HRW.out.cell]; rfl
      have k2 : w4.cell? ⟨wr.heap.size, 2, none⟩ = some (.string xs') := by rw [HRW.out.cell]; rfl
      generalize wr.heap.size = q at *
      clear l0 l1 l2
      cases xn
      · simp only [Bool.false_eq_true, if_false] at HSE HSV
        have hmv := m_Value_I
        go_wp2_with (first
          | (go_at_call 273; refine (ValueGen_I false xi xs' _).mono ?_; rintro e w5 ⟨rfl, hb5⟩; have HB5 := hid (HB4.out.trans (hb5.mono HB4.out.size)); have HE5 := hid (owns_below HE4.out hb5); have HF5 := hid (owns_below HF4.out hb5); have HSZ5 := hid HB5.out.size; clear hb5 k0 k1 k2)
          | (at_builtin; refine wpList_append1W rfl (.tmp 25) (.tmp 29) rfl 2 (.int .i64 0) 8 Tryz.underlying51 Tryz.info64 rfl rfl rfl HF5.out HSZ5.out (by rfl) (by unfold maxLen; omega) (by omega) ?_; intro v6 w6 ho6 hb6 hz6 hk6 hw6))
        have HO6 := hid ho6
        have HB6 := hid hb6
        have HK6 := hid (show Kp _ w5 w6 v6 from ⟨hk6, fun k hk => by
          rcases hw6 with h | h
          · exact .inl (by rw [← h]; exact hk.symm)
          · exact .inr (h.1 k hk)⟩)
        clear ho6 hb6 hz6 hk6 hw6
        have HE6 := hid (owns_kp HE5.out HK6.out HAP.out.symm)
        have HAP6 := hid (HAP.out.right HK6.out (fun k hk => (HE5.out.lt k hk).2))
        go_roundw
        case rel =>
          have G1 : Hid ((valsOf (cs.take (t + 1))).length = k + 1) := hid (by rw [HSV.out, List.length_append, HKV.out]; rfl)
          have G3 : Hid (i64s ((valsOf (cs.take (t + 1))).map Prod.fst) = i64s (vs.map Prod.fst) ++ [.int .i64 xi]) := hid (by rw [HSV.out, List.map_append, i64s_append]; rfl)
          exact ⟨t + 1, by omega, by go_num, hid (by rw [HSE.out, HM.out]; exact HE6.out), hid (by rw [G1.out, G3.out]; exact HO6.out), HAP6, hid (HB5.out.trans HB6.out)⟩
        case measure => simp [intOf]; omega
      · simp only [if_true, List.append_nil] at HSE HSV
        go_wp2_with (at_builtin; refine wpList_append1W rfl (.tmp 21) (.tmp 23) rfl 3 (.int .i64 0) 8 Tryz.underlying92 Tryz.infoI64 rfl rfl rfl HE4.out HSZ4.out (by rfl) (by unfold maxLen; omega) (by omega) ?_; intro v6 w6 ho6 hb6 hz6 hk6 hw6)
        have HO6 := hid ho6
        have HB6 := hid hb6
        have HK6 := hid (show Kp _ w4 w6 v6 from ⟨hk6, fun k hk => by
          rcases hw6 with h | h
          · exact .inl (by rw [← h]; exact hk.symm)
          · exact .inr (h.1 k hk)⟩)
        clear ho6 hb6 hz6 hk6 hw6
        have HF6 := hid (owns_kp HF4.out HK6.out HAP.out)
        have HAP6 := hid (HAP.out.left HK6.out (fun k hk => (HF4.out.lt k hk).2))
        go_roundw
        case rel =>
          have G1 : Hid ((nullIx cs (t + 1)).length = m + 1) := hid (by rw [HSE.out, List.length_append, HM.out]; rfl)
          have G3 : Hid (i64s ((nullIx cs (t + 1)).map Int.ofNat) = i64s (es.map Int.ofNat) ++ [.int .i64 t]) := hid (by rw [HSE.out, List.map_append, i64s_append]; rfl)
          exact ⟨t + 1, by omega, by go_num, hid (by rw [G1.out, G3.out]; exact HO6.out), hid (by rw [HSV.out, HKV.out]; exact HF6.out), HAP6, hid (HB4.out.trans HB6.out)⟩
        case measure => simp [intOf]; omega
    · obtain rfl : t = cs.length := by omega
      rw [List.take_length] at HF
      rw [HVR.out, HVL0.out] at HF
      have HML := hid (nullIx_len cs cs.length)
      generalize nullIx cs cs.length = es at *
      have HLE : Hid ((es.map Int.ofNat).length = es.length) := hid (by rw [List.length_map])
      obtain ⟨E1, ce1, rfl, _⟩ := owns_form HE.out
      obtain ⟨F1, cf1, rfl, _⟩ := owns_form HF.out
      have HDE := hid (Dense_any (.slice E1 es.length ce1) (es.map Int.ofNat) cs.length wr (by rw [HLE.out]; exact owns_rd HE.out) (by rw [HLE.out]; have := HML.out; unfold maxLen; omega))
      rw [HDN.out] at HDE
      have HFR := hid (owns_rd HF.out)
      clear HE HF HAP HU HLE HDN HML HVR HVL0
      generalize es.map Int.ofNat = eI at *
      generalize denseOk cs.length eI = ok at *
      generalize wr = w2 at *
      go_wp2_with (go_at_call 173; refine HDE.out.mono ?_; rintro e w5 ⟨r, rfl, h1, h2⟩; obtain ⟨N1, cn1, rfl, _⟩ := owns_form h1; have H1 := hid (owns_rd h1); have H2 := hid h2; clear h1 h2)
      go_ret2
      exact ⟨_, _, rfl, HFR.out.mono H2.out, H1.out, HB.out.trans (H2.out.mono HB.out.size)⟩
end Go.Proofs.YthonbfojpbfmgaaGreatDoor

/- Package codec: numbers less a base, packed. -/
set_option linter.unusedVariables false
set_option linter.unusedSimpArgs false
set_option linter.unnecessarySimpa false
set_option maxRecDepth 100000
namespace Go.Proofs.YthonbfojpbfmgaaGreatDoor
open Go.RowKit

def lnF (b : Nat) (x : Int) : Nat := (toU x + 18446744073709551616 - b) % 18446744073709551616
theorem lnF_eq (b : Nat) (x : Int) : lnF b x = (toU x + 18446744073709551616 - b) % 18446744073709551616 := by unfold lnF; rfl
theorem take_mapd_snoc {α β : Type} (g : α → β) (xs : List α) (d : α) (j : Nat) (h : j < xs.length) : (xs.map g).take (j + 1) = (xs.map g).take j ++ [g (xs.getD j d)] := by
  rw [← List.map_take, ← List.map_take, take_snoc xs d j h, List.map_append, List.map_cons, List.map_nil]
theorem map_pI {β : Type} (f : PV → β) (g : Int → β) (h : ∀ x, f (pI x) = g x) (xs : List Int) : (xs.map pI).map f = xs.map g := by
  rw [List.map_map]; apply List.map_congr_left; intro x _; rw [Function.comp_apply, h]
theorem lanesF_map (b : Nat) (xs : List Int) : lanesF b (xs.map pI) = xs.map (lnF b) := by
  unfold lanesF
  exact map_pI _ _ (fun x => by rw [lnF_eq, show (pI x).1 = x from rfl]) xs
theorem lanesF_I (b : Nat) (xs : List Int) (j : Nat) (h : j < xs.length) : (lanesF b (xs.map pI)).take (j + 1) = (lanesF b (xs.map pI)).take j ++ [lnF b (xs.getD j 0)] := by
  rw [lanesF_map]; exact take_mapd_snoc _ xs 0 j h
set_option maxHeartbeats 4000000 in
theorem packFrom_any (base wd : Int) (xs : List Int) (u : Value) (w : World) (hu : Rd w u xs.length 1 (i64s xs)) (hl : xs.length ≤ 1048576) :
    Calls Tryz.prog 225 #[.int .i64 base, u, .int .i64 wd] w fun e w' => ∃ r, e = .returned (.tuple #[r, .bool (okVals wd (lanesF (toU base) (xs.map pI)))]) ∧
      w'.ownsRow w.heap.size 40 1 r (packR wd (lanesF (toU base) (xs.map pI))).length (u64s (packR wd (lanesF (toU base) (xs.map pI)))) ∧ Below w.heap.size w w' := by
  have HU := hid hu
  obtain ⟨A1, c1, rfl, _, _, _⟩ := hu.form
  obtain ⟨n, hn⟩ : ∃ n, xs.length = n := ⟨_, rfl⟩
  have HN := hid hn
  rw [hn] at hl HU
  have HTK := hid (lanesF_I (toU base) xs)
  have HLL : Hid ((lanesF (toU base) (xs.map pI)).length = n) := hid (by unfold lanesF; rw [List.length_map, List.length_map]; exact hn)
  have HLV : Hid (∀ x ∈ lanesF (toU base) (xs.map pI), x < 18446744073709551616) := hid (by
    intro x hx
    obtain ⟨y, _, rfl⟩ := List.mem_map.1 hx
    exact Nat.mod_lt _ (by decide))
  simp only [hn]
  have hbu := wrap_toU base
  have hbl := toU_lt base
  generalize lanesF (toU base) (xs.map pI) = ls at *
  generalize toU base = bu at *
  obtain ⟨R, hR⟩ : ∃ R, packR wd ls = R := ⟨_, rfl⟩
  obtain ⟨ok, hok⟩ : ∃ ok, okVals wd ls = ok := ⟨_, rfl⟩
  have HRR := hid hR
  have HOK := hid hok
  rw [hR, hok]
  clear hu hn hR hok
  go_enter Tryz.func225, Tryz.ntmps225
  go_wp2
  refine upon_make 40 (.int .u64 0) 8 Tryz.underlying28 Tryz.info45 rfl n (by omega) (by omega) (by omega) (by unfold maxLen; omega) ?_
  intro w2 hrow2 hb2 hsz2
  obtain ⟨q, hq⟩ : ∃ q, w.heap.size = q := ⟨_, rfl⟩
  have HQ := hid hq
  have hb3 := hb2
  rw [hq] at hrow2 hb2 hsz2 ⊢
  have HROW2 := hid hrow2
  have HB2 := hid hb2
  clear hrow2 hb2 hq hb3
  go_wp2
  go_loopw [16] (fun i wr => ∃ j : Nat, j ≤ n ∧ i = .int .i64 j ∧ Hid (Row wr q 40 (u64s (ls.take j) ++ List.replicate (n - j) (.int .u64 0))) ∧ Hid (Below q w wr) ∧ Hid (q < wr.heap.size)) (fun i _ => n - (intOf i).toNat)
  case atStart => exact ⟨0, by omega, rfl, hid (by simpa [u64s] using HROW2.out), HB2, hid (by omega)⟩
  case round =>
    obtain ⟨j, hj, rfl, HR, HB, HZ⟩ := hrel
    by_cases hlt : j < n
    · obtain ⟨b, o, rfl, hs⟩ := (HU.out.mono (by rw [HQ.out]; exact HB.out)).atI (by omega)
      have e1 := hs j (by rw [HN.out]; exact hlt)
      clear hs
      have HT := hid (HTK.out j (by rw [HN.out]; exact hlt))
      have hcell : wr.cell? ⟨q, j, none⟩ = some (.int .u64 0) := by
        rw [HR.out.cell]; exact get_fill _ _ _ _ (by simp [u64s, List.length_take, HLL.out]; omega) (by omega)
      have hfr := HR.out.frozen j
      generalize xs.getD j 0 = x at *
      have hxu := wrap_toU x
      have hxl := toU_lt x
      obtain ⟨y, hy⟩ : ∃ y, toU x = y := ⟨_, rfl⟩
      have HYX := hid hy
      rw [hy] at hxu hxl
      clear hy
      obtain ⟨ln, hln⟩ : ∃ ln, lnF bu x = ln := ⟨_, rfl⟩
      rw [hln] at HT
      rw [lnF_eq, HYX.out] at hln
      have hws2 : ((y : Int) - (bu : Int)) % 18446744073709551616 = (ln : Int) := by omega
      have hws1 : IntKind.u64.wrap ((y : Int) - (bu : Int)) = (ln : Int) := by rw [IntKind.wrap_u64]; exact hws2
      clear hln
      go_wp2
      go_roundw
      case rel =>
        refine ⟨j + 1, by omega, by go_num, hid ?_, hid (below_set HB.out _ _ _ (Nat.le_refl _)), hid (by simpa [World.setCell] using HZ.out)⟩
        have hss := HR.out.set j (.int .u64 (ln : Int))
        rw [set_fill _ _ _ _ _ (by simp [u64s, List.length_take, HLL.out]; omega) (by omega)] at hss
        rw [HT.out, u64s_append, ← Nat.sub_sub n j 1]
        exact hss
      case measure => simp [intOf]; omega
    · obtain rfl : j = n := by omega
      have htk : ls.take j = ls := by rw [← HLL.out, List.take_length]
      rw [htk, Nat.sub_self, List.replicate_zero, List.append_nil] at HR
      have HRD := hid (owns_rd (HR.out.owns (B := q) (Nat.le_refl _) (n := j) (by rw [u64s_length, HLL.out]) (by unfold maxLen; omega)))
      have HPK := hid (Pack_any (.slice (some ⟨q, 0, none⟩) j j) ls wd wr (by rw [HLL.out]; exact HRD.out) HLV.out (by rw [HLL.out]; unfold maxLen; omega))
      rw [HRR.out, HOK.out] at HPK
      go_wp2_with (go_at_call 221; refine HPK.out.mono ?_; rintro e w5 ⟨r, rfl, h1, h2⟩; obtain ⟨N1, cn1, rfl, _⟩ := owns_form h1; have H1 := hid h1; have H2 := hid h2; clear h1 h2)
      go_ret2
      have hqq := HQ.out
      subst hqq
      exact ⟨_, rfl, owns_low H1.out HB.out.size, HB.out.trans (H2.out.mono HB.out.size)⟩
end Go.Proofs.YthonbfojpbfmgaaGreatDoor

/- slices.BinarySearch over numbers of 64 bits. -/
set_option linter.unusedVariables false
set_option linter.unusedSimpArgs false
set_option linter.unnecessarySimpa false
set_option maxRecDepth 20000
namespace Go.Proofs.YthonbfojpbfmgaaGreatDoor
open Go.RowKit

theorem isNaNi64_any (x : Int) (w : World) : Calls Tryz.prog 239 #[.int .i64 x] w fun e w' => e = .returned (.bool false) ∧ w' = w := by
  have e1 : (x != x) = false := by simp
  go_enter Tryz.func239, Tryz.ntmps239
  go_wp2
  go_ret
  exact ⟨rfl, rfl⟩
theorem isNaNs64_any (x : Int) (w : World) : Calls Tryz.prog 235 #[.int .i64 x] w fun e w' => e = .returned (.bool false) ∧ w' = w := by
  have e1 : (x != x) = false := by simp
  go_enter Tryz.func235, Tryz.ntmps235
  go_wp2
  go_ret
  exact ⟨rfl, rfl⟩
theorem Less64_any (x y : Int) (w : World) : Calls Tryz.prog 215 #[.int .i64 x, .int .i64 y] w fun e w' => e = .returned (.bool (decide (x < y))) ∧ w' = w := by
  go_enter Tryz.func215, Tryz.ntmps215
  go_wp2_with (go_at_call 239; refine (isNaNi64_any _ _).mono ?_; rintro e w' ⟨rfl, rfl⟩)
  all_goals go_ret
  all_goals exact ⟨rfl, rfl⟩

set_option maxHeartbeats 2000000 in
theorem BinarySearch64f_any (v : Value) (es : List Int) (t : Int) (w : World) (hx : Rd w v es.length 1 (i64s es)) (hl : es.length ≤ 1048576) (hup : ∀ a b, a < b → b < es.length → es.getD a 0 < es.getD b 0) :
    Calls Tryz.prog 207 #[v, .int .i64 t] w fun e w' => e = .returned (.tuple #[.int .i64 (firstGe es t : Nat), .bool (decide (t ∈ es))]) ∧ ∃ n, w' = w.drewN n := by
  obtain ⟨A, ca, rfl, hlc, hcm, hA⟩ := hx.form
  have HX := hid hx
  have HUP := hid hup
  clear hx hup
  go_enter Tryz.func207, Tryz.ntmps207
  go_wp2
  go_loop [7, 8] (fun u x => ∃ i j : Nat, i ≤ j ∧ j ≤ es.length ∧ u = .int .i64 i ∧ x = .int .i64 j ∧ (∀ a, a < i → es.getD a 0 < t) ∧ (∀ a, j ≤ a → a < es.length → t ≤ es.getD a 0)) (fun u x => (intOf x).toNat - (intOf u).toNat)
  case atStart => exact ⟨0, es.length, by omega, by omega, rfl, rfl, fun a h => by omega, fun a h1 h2 => by omega⟩
  case round =>
    obtain ⟨i, j, hij, hj, rfl, rfl, h1, h2⟩ := hrel
    have H1 := hid h1
    have H2 := hid h2
    clear h1 h2
    by_cases hlt : i < j
    · obtain ⟨b, o, rfl, hs⟩ := hA (by omega)
      obtain ⟨m, hm⟩ : ∃ m, (i + j) / 2 = m := ⟨_, rfl⟩
      have hm' : ((i : Int) + (j : Int)) / 2 = (m : Int) := by omega
      have hml : m < es.length := by omega
      have c1 := hs.int m hml
      have him : i ≤ m := by omega
      have hmj : m < j := by omega
      have HLT : Hid (es.getD m 0 < t → ∀ a, a < m + 1 → es.getD a 0 < t) := by
        intro h a ha
        by_cases ham : a = m
        · subst ham; exact h
        · have := HUP.out a m (by omega) hml; omega
      have HGE : Hid (t ≤ es.getD m 0 → ∀ a, m ≤ a → a < es.length → t ≤ es.getD a 0) := by
        intro h a ha1 ha2
        by_cases ham : a = m
        · subst ham; exact h
        · have := HUP.out m a (by omega) ha2; omega
      clear hs hA hm
      generalize es.getD m 0 = x at *
      go_wp2_with (go_at_call 215; refine (Less64_any _ _ _).mono ?_; rintro e w' ⟨rfl, hw⟩; subst hw)
      · go_round
        case rel => exact ⟨m + 1, j, by omega, by omega, by go_num, rfl, HLT.out (by assumption), H2.out⟩
        case measure => simp [intOf]; omega
      · go_round
        case rel => exact ⟨i, m, by omega, by omega, rfl, rfl, H1.out, HGE.out (by omega)⟩
        case measure => simp [intOf]; omega
    · have hf : firstGe es t = i := firstGe_eq es t i (by omega) H1.out (fun h => H2.out i (by omega) h)
      have HF := hid hf
      clear hf
      by_cases hie : i < es.length
      · obtain ⟨b, o, rfl, hs⟩ := hA (by omega)
        have c1 := hs.int i hie
        have HMEM : Hid (es.getD i 0 = t → t ∈ es) := hid (fun h => by
          rw [← h]; simp [List.getD, List.getElem?_eq_getElem hie])
        have HNOT : Hid (es.getD i 0 ≠ t → ¬ t ∈ es) := hid (fun h hm => by
          obtain ⟨a, ha, hat⟩ := List.getElem_of_mem hm
          have hg : es.getD a 0 = t := by simp [List.getD, List.getElem?_eq_getElem ha, hat]
          by_cases h1 : a < i
          · have := H1.out a h1; omega
          · by_cases h2 : a = i
            · subst h2; exact h hg
            · have h3 := HUP.out i a (by omega) ha
              have h4 := H2.out i (by omega) hie
              omega)
        clear hs hA
        generalize es.getD i 0 = x at *
        by_cases hxt : x = t
        · have hd : decide (t ∈ es) = true := decide_eq_true (HMEM.out hxt)
          have HD := hid hd
          subst hxt
          clear hd HMEM HNOT
          go_wp2_with (go_at_call 235; refine (isNaNs64_any _ _).mono ?_; rintro e w' ⟨rfl, hw⟩; subst hw)
          all_goals go_ret2
          all_goals exact ⟨by rw [HF.out, HD.out]; rfl, 0, rfl⟩
        · have hd : decide (t ∈ es) = false := decide_eq_false (HNOT.out hxt)
          have HD := hid hd
          have hb : (x == t) = false := by simpa using hxt
          clear hd HMEM HNOT hxt
          go_wp2_with (go_at_call 235; refine (isNaNs64_any _ _).mono ?_; rintro e w' ⟨rfl, hw⟩; subst hw)
          all_goals go_ret2
          all_goals exact ⟨by rw [HF.out, HD.out]; rfl, 0, rfl⟩
      · have hd : decide (t ∈ es) = false := decide_eq_false (fun hm => by
          obtain ⟨a, ha, hat⟩ := List.getElem_of_mem hm
          have hg : es.getD a 0 = t := by simp [List.getD, List.getElem?_eq_getElem ha, hat]
          have := H1.out a (by omega); omega)
        have HD := hid hd
        clear hd
        go_wp2
        all_goals go_ret2
        all_goals exact ⟨by rw [HF.out, HD.out]; rfl, 0, rfl⟩
theorem BinarySearch64_any (v : Value) (es : List Int) (t : Int) (w : World) (hx : Rd w v es.length 1 (i64s es)) (hl : es.length ≤ 1048576) (hup : ∀ a b, a < b → b < es.length → es.getD a 0 < es.getD b 0) :
    Calls Tryz.prog 207 #[v, .int .i64 t] w fun e w' => (∃ b : Value, e = .returned (.tuple #[.int .i64 (firstGe es t : Nat), b])) ∧ ∃ n, w' = w.drewN n := by
  refine (BinarySearch64f_any v es t w hx hl hup).mono ?_
  rintro e w' ⟨rfl, h⟩
  exact ⟨⟨_, rfl⟩, h⟩
end Go.Proofs.YthonbfojpbfmgaaGreatDoor

/- Package kernel: the test of a leaf, of integers. -/
set_option linter.unusedVariables false
set_option linter.unusedSimpArgs false
set_option linter.unnecessarySimpa false
set_option maxRecDepth 100000
namespace Go.Proofs.YthonbfojpbfmgaaGreatDoor
open Go.RowKit

set_option maxHeartbeats 8000000 in
theorem testOfI_any (op col : Int) (av : Value) (args : List C3) (w : World) (hx : Rd w av args.length 3 (cells3 args)) (hl : args.length ≤ 1048576) :
    Calls Tryz.prog 58 #[.iface 68 (.agg #[]), .agg #[.int .i64 op, .int .i64 col, av]] w fun e w' => ∃ lv, e = .returned (.agg #[.int .i64 op, lv]) ∧
      w'.ownsRow w.heap.size 2 1 lv (litsI op (args.map C3.i)).length (i64s (litsI op (args.map C3.i))) ∧ Below w.heap.size w w' := by
  have HX := hid hx
  obtain ⟨A1, ca, rfl, _, _, _⟩ := hx.form
  clear hx
  have HB0 := hid (((brefl w).alloc (Nat.le_refl _) (.cells #[.int .i64 op, .int .i64 col, .slice A1 args.length ca] 25)).alloc (by simp) (.cells #[.int .i64 0, .slice none 0 0] 117))
  have HRN : Hid (Row ((w.alloc (.cells #[.int .i64 op, .int .i64 col, .slice A1 args.length ca] 25)).alloc (.cells #[.int .i64 0, .slice none 0 0] 117)) w.heap.size 25 [.int .i64 op, .int .i64 col, .slice A1 args.length ca]) := hid (by
    have h1 : Row (w.alloc (.cells #[.int .i64 op, .int .i64 col, .slice A1 args.length ca] 25)) w.heap.size 25 [.int .i64 op, .int .i64 col, .slice A1 args.length ca] := by unfold Row; rw [heap_alloc_new]
    exact h1.mono ((brefl _).alloc (Nat.le_refl _) _))
  have HRR : Hid (Row ((w.alloc (.cells #[.int .i64 op, .int .i64 col, .slice A1 args.length ca] 25)).alloc (.cells #[.int .i64 0, .slice none 0 0] 117)) (w.heap.size + 1) 117 [.int .i64 0, .slice none 0 0]) := hid (by
    have e : w.heap.size + 1 = (w.alloc (.cells #[.int .i64 op, .int .i64 col, .slice A1 args.length ca] 25)).heap.size := by simp
    rw [e]; unfold Row; rw [heap_alloc_new])
  have HSZ : Hid (((w.alloc (.cells #[.int .i64 op, .int .i64 col, .slice A1 args.length ca] 25)).alloc (.cells #[.int .i64 0, .slice none 0 0] 117)).heap.size = w.heap.size + 2) := hid (by simp)
  obtain ⟨n, hn⟩ : ∃ n, args.length = n := ⟨_, rfl⟩
  have HN := hid hn
  simp only [hn] at HX HB0 HRN HRR HSZ hl ⊢
  clear hn
  have hlm : ((args.map C3.i).mergeSort fun x y => decide (x ≤ y)).length = n := by rw [List.length_mergeSort, List.length_map]; exact HN.out
  have HSO := hid (fun (w1 : World) (v : Value) (B : Nat) (h : w1.ownsRow B 2 1 v n (i64s (args.map C3.i))) (h2 : B ≤ w1.heap.size) => SortI_any B (args.map C3.i) v w1 (by rw [List.length_map, HN.out]; exact h) h2 (by rw [List.length_map, HN.out]; exact hl))
  have HCO : Hid (∀ (w1 : World) (v : Value) (B : Nat), w1.ownsRow B 2 1 v n (i64s ((args.map C3.i).mergeSort fun x y => decide (x ≤ y))) → B ≤ w1.heap.size → Calls Tryz.prog 110 #[v] w1 fun e w' => ∃ v', e = .returned v' ∧ w'.ownsRow B 2 1 v' (dictI (args.map C3.i)).length (i64s (dictI (args.map C3.i))) ∧ Below B w1 w') := hid (fun w1 v B h h2 => CompactI_any B _ v w1 (by rw [hlm]; exact h) h2 (by omega))
  rw [hlm] at HSO
  clear hlm
  generalize (args.map C3.i).mergeSort (fun x y => decide (x ≤ y)) = ms at *
  have HTK := hid (fun (j : Nat) (h : j < args.length) => take_mapd_snoc C3.i args C3.df j h)
  have HLV : Hid ((args.map C3.i).length = n) := hid (by rw [List.length_map]; exact HN.out)
  have HR7 : Hid (op = 7 → litsI op (args.map C3.i) = dictI (args.map C3.i)) := hid (fun h => by unfold litsI; rw [if_pos h])
  have HR8 : Hid (op ≠ 7 → litsI op (args.map C3.i) = args.map C3.i) := hid (fun h => by unfold litsI; rw [if_neg h])
  generalize litsI op (args.map C3.i) = R at *
  generalize dictI (args.map C3.i) = D at *
  go_enter Tryz.func58, Tryz.ntmps58
  go_upto_region 1 with fail
  generalize (w.alloc (.cells #[.int .i64 op, .int .i64 col, .slice A1 n ca] 25)).alloc (.cells #[.int .i64 0, .slice none 0 0] 117) = w0 at *
  obtain ⟨k0, k1, k2⟩ := cell3 HRN.out
  go_upto_region 2 with (refine upon_make 2 (.int .i64 0) 8 Tryz.underlying51 Tryz.info64 rfl n (by omega) (by omega) (by omega) (by unfold maxLen; omega) ?_; intro w2 hrow2 hb2 hsz2)
  obtain ⟨q2, hq2⟩ : ∃ q2, w0.heap.size = q2 := ⟨_, rfl⟩
  have HQ2 := hid hq2
  rw [hq2] at hrow2 hb2 hsz2 HSZ ⊢
  have hq0 : w.heap.size + 2 = q2 := HSZ.out.symm
  have HROW2 := hid hrow2
  have HB2 := hid hb2
  have HX0 := hid (HX.out.mono HB0.out)
  have HRN2 := hid (HRN.out.below hb2 (by omega))
  clear hrow2 hb2 hq2 k0 k1 k2 HX
  obtain ⟨k0, k1, k2⟩ := cell3 HRN2.out
  clear HRN2
  go_wp2_with fail
  clear k0 k1 k2
  go_loopw [15] (fun i wr => ∃ j : Nat, j ≤ n ∧ i = .int .i64 j ∧ Hid (Row wr q2 2 (i64s ((args.map C3.i).take j) ++ List.replicate (n - j) (.int .i64 0))) ∧ Hid (Below q2 w0 wr) ∧ Hid (q2 < wr.heap.size)) (fun i _ => n - (intOf i).toNat)
  case atStart => exact ⟨0, by omega, rfl, hid (by simpa [i64s] using HROW2.out), HB2, hid (by omega)⟩
  case round =>
    obtain ⟨j, hj, rfl, HR, HB, HZ⟩ := hrel
    by_cases hlt : j < n
    · obtain ⟨b, o, rfl, hcells⟩ := (HX0.out.mono (by rw [HQ2.out]; exact HB.out)).at3 (by omega)
      obtain ⟨l0, l1, l2⟩ := hcells j (by rw [HN.out]; exact hlt)
      have HT := hid (HTK.out j (by rw [HN.out]; exact hlt))
      clear hcells
      generalize args.getD j C3.df = X at *
      obtain ⟨xn, xi, xs'⟩ := X
      simp only at l0 l1 l2 HT
      have HBA := hid ((brefl wr).alloc (Nat.le_refl _) (.cells #[.bool xn, .int .i64 xi, .string xs'] 42))
      have HRW : Hid (Row (wr.alloc (.cells #[.bool xn, .int .i64 xi, .string xs'] 42)) wr.heap.size 42 [.bool xn, .int .i64 xi, .string xs']) := hid (by unfold Row; rw [heap_alloc_new])
      have HR4 := hid (HR.out.mono HBA.out)
      have HB4 := hid (HB.out.trans (HBA.out.mono (Nat.le_of_lt HZ.out)))
      have HZ4 := hid (Nat.lt_of_lt_of_le HZ.out HBA.out.size)
      go_upto_region 5 with fail
      generalize wr.alloc (.cells #[.bool xn, .int .i64 xi, .string xs'] 42) = w4 at *
      have c0 : w4.cell? ⟨wr.heap.size, 0, none⟩ = some (.bool xn) := by rw [HRW.out.cell]; rfl
      have c1 : w4.cell? ⟨wr.heap.size, 1, none⟩ = some (.int .i64 xi) := by rw [HRW.out.cell]; rfl
      have c2 : w4.cell? ⟨wr.heap.size, 2, none⟩ = some (.string xs') := by rw [HRW.out.cell]; rfl
      generalize wr.heap.size = qq at *
      clear l0 l1 l2
      have hmv := m_Value_I
      go_wp2_with (go_at_call 273; refine (ValueGen_I xn xi xs' _).mono ?_; rintro e w5 ⟨rfl, hb5⟩; have HR5 := hid (HR4.out.mono hb5); have HB5 := hid (HB4.out.trans (hb5.mono (Nat.le_of_lt HZ4.out))); have HZ5 := hid (Nat.lt_of_lt_of_le HZ4.out hb5.size); clear hb5 hmv c0 c1 c2; have hcell : w5.cell? ⟨q2, j, none⟩ = some (.int .i64 0) := (by rw [HR5.out.cell]; exact get_fill _ _ _ _ (by simp [i64s, List.length_take, HN.out]; omega) (by omega)); have hfr := HR5.out.frozen j)
      go_roundw
      case rel =>
        refine ⟨j + 1, by omega, by go_num, hid ?_, hid (below_set HB5.out _ _ _ (Nat.le_refl _)), hid (by simpa [World.setCell] using HZ5.out)⟩
        have hss := HR5.out.set j (.int .i64 xi)
        rw [set_fill _ _ _ _ _ (by simp [i64s, List.length_take, HN.out]; omega) (by omega)] at hss
        rw [HT.out, i64s_append, ← Nat.sub_sub n j 1]
        exact hss
      case measure => simp [intOf]; omega
    · obtain rfl : j = n := by omega
      have htk : (args.map C3.i).take j = args.map C3.i := by rw [← HLV.out, List.take_length]
      rw [htk, Nat.sub_self, List.replicate_zero, List.append_nil] at HR
      have HOW := hid (HR.out.owns (B := q2) (n := j) (Nat.le_refl _) (by rw [i64s_length, HLV.out]) (by unfold maxLen; omega))
      have HRNw := hid (HRN.out.below HB.out (by omega))
      have HRRw := hid (HRR.out.below HB.out (by omega))
      have HBW := hid (HB0.out.trans (HB.out.mono (by omega)))
      have hzz := HZ.out
      clear HTK HR HROW2 HB2 HB HRN HRR HX0 htk hsz2
      obtain ⟨k0, k1, k2⟩ := cell3 HRNw.out
      generalize wr = w5 at *
      by_cases h7 : op = 7
      · have hrd := HR7.out h7
        subst hrd
        clear HR7 HR8
        subst h7
        go_upto_region 8 with fail
        clear k0 k1 k2
        go_upto_region 10 with (first
          | (go_at_call 109; refine (HSO.out w5 _ q2 HOW.out (Nat.le_of_lt hzz)).mono ?_; rintro e w6 ⟨rfl, h1, h2⟩; have K1 := hid h1; have K2 := hid h2; clear h1 h2)
          | (go_at_call 110; refine (HCO.out w6 _ q2 K1.out (Nat.le_trans (Nat.le_of_lt hzz) K2.out.size)).mono ?_; rintro e w7 ⟨v7, rfl, h1, h2⟩; obtain ⟨A7, c7, rfl, _⟩ := owns_form h1; have L1 := hid h1; have L2 := hid (K2.out.trans h2); clear h1 h2))
        have HRN7 := hid (HRNw.out.below L2.out (by omega))
        have HRR7 := hid (HRRw.out.below L2.out (by omega))
        have HB7 := hid (HBW.out.trans (L2.out.mono (by omega)))
        obtain ⟨k0, k1, k2⟩ := cell3 HRN7.out
        obtain ⟨z0, z1⟩ := cellP HRR7.out
        have f0 := HRR7.out.frozen 0
        have f1 := HRR7.out.frozen 1
        go_wp2_with fail
        clear k0 k1 k2 z0 z1 f0 f1
        have HCF := hid (((Chg.refl (w.heap.size + 1) (w.heap.size + 1) w7).setCell (w.heap.size + 1) 0 (.int .i64 7) (.inl rfl)).setCell (w.heap.size + 1) 1 (.slice A7 R.length c7) (.inl rfl))
        have HRF := hid ((HRR7.out.set 0 (.int .i64 7)).set 1 (.slice A7 R.length c7))
        have HBF := hid (below_set (below_set HB7.out (w.heap.size + 1) 0 (.int .i64 7) (by omega)) (w.heap.size + 1) 1 (.slice A7 R.length c7) (by omega))
        have HOF := hid (owns_low (B' := w.heap.size) (owns_chg L1.out HCF.out (by omega) (by omega)) (by omega))
        generalize (w7.setCell ⟨w.heap.size + 1, 0, none⟩ (.int .i64 7)).setCell ⟨w.heap.size + 1, 1, none⟩ (.slice A7 R.length c7) = wF at *
        have y0 : wF.cell? ⟨w.heap.size + 1, 0, none⟩ = some (.int .i64 7) := by rw [HRF.out.cell]; rfl
        have y1 : wF.cell? ⟨w.heap.size + 1, 1, none⟩ = some (.slice A7 R.length c7) := by rw [HRF.out.cell]; rfl
        refine bodyPost_ret (v := .agg #[.int .i64 7, (.slice A7 R.length c7)]) ?_ rfl ⟨_, rfl, HOF.out, HBF.out⟩
        simp [results, Tryz.results58, go_sem, y0, y1]
      · have hrd := HR8.out h7
        subst hrd
        clear HR7 HR8
        have h7b : (op == 7) = false := by simpa using h7
        obtain ⟨z0, z1⟩ := cellP HRRw.out
        have f0 := HRRw.out.frozen 0
        have f1 := HRRw.out.frozen 1
        go_wp2_with fail
        clear k0 k1 k2 z0 z1 f0 f1
        have HOW2 : Hid (w5.ownsRow q2 2 1 (.slice (some ⟨q2, 0, none⟩) j j) (args.map C3.i).length (i64s (args.map C3.i))) := hid (by rw [HLV.out]; exact HOW.out)
        have HCF := hid (((Chg.refl (w.heap.size + 1) (w.heap.size + 1) w5).setCell (w.heap.size + 1) 0 (.int .i64 op) (.inl rfl)).setCell (w.heap.size + 1) 1 (.slice (some ⟨q2, 0, none⟩) j j) (.inl rfl))
        have HRF := hid ((HRRw.out.set 0 (.int .i64 op)).set 1 (.slice (some ⟨q2, 0, none⟩) j j))
        have HBF := hid (below_set (below_set HBW.out (w.heap.size + 1) 0 (.int .i64 op) (by omega)) (w.heap.size + 1) 1 (.slice (some ⟨q2, 0, none⟩) j j) (by omega))
        have HOF := hid (owns_low (B' := w.heap.size) (owns_chg HOW2.out HCF.out (by omega) (by omega)) (by omega))
        generalize (w5.setCell ⟨w.heap.size + 1, 0, none⟩ (.int .i64 op)).setCell ⟨w.heap.size + 1, 1, none⟩ (.slice (some ⟨q2, 0, none⟩) j j) = wF at *
        have y0 : wF.cell? ⟨w.heap.size + 1, 0, none⟩ = some (.int .i64 op) := by rw [HRF.out.cell]; rfl
        have y1 : wF.cell? ⟨w.heap.size + 1, 1, none⟩ = some (.slice (some ⟨q2, 0, none⟩) j j) := by rw [HRF.out.cell]; rfl
        refine bodyPost_ret (v := .agg #[.int .i64 op, (.slice (some ⟨q2, 0, none⟩) j j)]) ?_ rfl ⟨_, rfl, HOF.out, HBF.out⟩
        simp [results, Tryz.results58, go_sem, y0, y1]
end Go.Proofs.YthonbfojpbfmgaaGreatDoor

/- Package kernel: whether a test holds for an integer. -/
set_option linter.unusedVariables false
set_option linter.unusedSimpArgs false
set_option linter.unnecessarySimpa false
set_option maxRecDepth 100000
namespace Go.Proofs.YthonbfojpbfmgaaGreatDoor
open Go.RowKit

theorem ordP_I (v l : Int) : ordP (pI v) (pI l) = if v < l then -1 else if l < v then 1 else 0 := by
  unfold ordP pI
  simp only [ordS_refl0]
theorem standsS_I (op : Int) (v l : Int) : standsS op (ordP (pI v) (pI l)) =
    (if op = 1 then decide (v = l) else if op = 2 then decide (v ≠ l) else if op = 3 then decide (v < l) else if op = 4 then decide (v ≤ l) else if op = 5 then decide (l < v) else decide (op = 6) && decide (l ≤ v)) := by
  rw [ordP_I]
  unfold standsS
  by_cases h1 : v < l
  · rw [if_pos h1]
    have h2 : ¬ v = l := by omega
    have h3 : v ≤ l := by omega
    have h4 : ¬ l < v := by omega
    have h5 : ¬ l ≤ v := by omega
    simp [h1, h2, h3, h4, h5]
  · rw [if_neg h1]
    by_cases h2 : l < v
    · rw [if_pos h2]
      have h3 : ¬ v = l := by omega
      have h4 : ¬ v ≤ l := by omega
      have h5 : l ≤ v := by omega
      simp [h1, h2, h3, h4, h5]
    · rw [if_neg h2]
      obtain rfl : v = l := by omega
      simp
theorem leafT_one (op : Int) (v l : Int) (h : 1 ≤ op ∧ op ≤ 6) : leafT op ([l].map pI) (pI v) = standsS op (ordP (pI v) (pI l)) := by
  unfold leafT
  rw [if_neg (by omega), if_neg (by omega)]; rfl
theorem leafT_in (v : Int) (ls : List Int) : leafT 7 (ls.map pI) (pI v) = decide (v ∈ ls) := by
  unfold leafT
  rw [if_pos rfl, Bool.eq_iff_iff, List.any_eq_true, decide_eq_true_eq]
  constructor
  · rintro ⟨x, h1, h2⟩
    obtain ⟨y, hy, rfl⟩ := List.mem_map.1 h1
    rw [eqP_pI, decide_eq_true_eq] at h2
    rw [h2]; exact hy
  · intro h
    exact ⟨pI v, List.mem_map.2 ⟨v, h, rfl⟩, by rw [eqP_pI]; simp⟩
theorem leafT_two (v a b : Int) : leafT 8 ([a, b].map pI) (pI v) = (decide (a ≤ v) && decide (v ≤ b)) := by
  unfold leafT
  rw [if_neg (by decide), if_pos rfl]
  show (decide (0 ≤ ordP (pI v) (pI a)) && decide (ordP (pI v) (pI b) ≤ 0)) = _
  rw [ordP_I, ordP_I]
  congr 1
  · rw [decide_eq_decide]
    by_cases h1 : v < a
    · rw [if_pos h1]; omega
    · rw [if_neg h1]
      by_cases h2 : a < v
      · rw [if_pos h2]; omega
      · rw [if_neg h2]; omega
  · rw [decide_eq_decide]
    by_cases h1 : v < b
    · rw [if_pos h1]; omega
    · rw [if_neg h1]
      by_cases h2 : b < v
      · rw [if_pos h2]; omega
      · rw [if_neg h2]; omega
theorem up_I' {D : List Int} (h : D.Pairwise (· < ·)) (a b : Nat) : a < b → b < D.length → D.getD a 0 < D.getD b 0 := by
  intro h1 h2
  have := List.pairwise_iff_getElem.1 h a b (by omega) h2 h1
  simpa [List.getD, List.getElem?_eq_getElem h2, List.getElem?_eq_getElem (show a < D.length by omega)] using this
set_option maxHeartbeats 8000000 in
theorem holdsI_any (op : Int) (lits : List Int) (lv : Value) (v : Int) (w : World) (hl : Rd w lv lits.length 1 (i64s lits)) (hok : litsOk op lits.length) (hup : op = 7 → lits.Pairwise (· < ·)) (hll : lits.length ≤ 1048576) :
    Calls Tryz.prog 160 #[.agg #[.int .i64 op, lv], .int .i64 v] w fun e w' => e = .returned (.bool (leafT op (lits.map pI) (pI v))) ∧ Below w.heap.size w w' := by
  obtain ⟨ho1, ho2, ho3, ho4⟩ := hok
  have HL := hid hl
  obtain ⟨A, c, rfl, _, _, _⟩ := hl.form
  have HB0 := hid ((brefl w).alloc (Nat.le_refl _) (.cells #[.int .i64 op, .slice A lits.length c] 117))
  have HRT : Hid (Row (w.alloc (.cells #[.int .i64 op, .slice A lits.length c] 117)) w.heap.size 117 [.int .i64 op, .slice A lits.length c]) := hid (by unfold Row; rw [heap_alloc_new])
  clear hl
  have hcase : op ≤ 6 ∨ op = 7 ∨ op = 8 := by omega
  rcases hcase with h6 | rfl | rfl
  · obtain ⟨l0, rfl⟩ : ∃ l0, lits = [l0] := by
      have := ho3 h6
      match lits, this with
      | [x], _ => exact ⟨x, rfl⟩
    rw [leafT_one op v l0 ⟨ho1, h6⟩, standsS_I]
    have hop : op = 1 ∨ op = 2 ∨ op = 3 ∨ op = 4 ∨ op = 5 ∨ op = 6 := by omega
    clear ho1 ho2 ho3 ho4 h6 hup hll
    obtain ⟨b, o, rfl, hs⟩ := (HL.out.mono HB0.out).atI (by simp)
    have c0 := hs 0 (by simp)
    simp only [List.getD_cons_zero, Nat.add_zero] at c0
    simp only [List.length_singleton] at HB0 HRT c0 ⊢
    clear hs HL
    rcases hop with rfl | rfl | rfl | rfl | rfl | rfl
    · go_enter Tryz.func160, Tryz.ntmps160
      go_upto_region 1 with fail
      generalize w.alloc (.cells #[.int .i64 1, .slice (some ⟨b, o, none⟩) 1 c] 117) = w0 at *
      obtain ⟨k0, k1⟩ := cellP HRT.out
      go_wp2_with fail
      all_goals go_ret
      all_goals exact ⟨ret_bool (by first | rfl | simp), HB0.out⟩
    · go_enter Tryz.func160, Tryz.ntmps160
      go_upto_region 1 with fail
      generalize w.alloc (.cells #[.int .i64 2, .slice (some ⟨b, o, none⟩) 1 c] 117) = w0 at *
      obtain ⟨k0, k1⟩ := cellP HRT.out
      go_wp2_with fail
      all_goals go_ret
      all_goals exact ⟨ret_bool (by first | rfl | simp), HB0.out⟩
    · go_enter Tryz.func160, Tryz.ntmps160
      go_upto_region 1 with fail
      generalize w.alloc (.cells #[.int .i64 3, .slice (some ⟨b, o, none⟩) 1 c] 117) = w0 at *
      obtain ⟨k0, k1⟩ := cellP HRT.out
      go_wp2_with fail
      all_goals go_ret
      all_goals exact ⟨ret_bool (by first | rfl | simp), HB0.out⟩
    · go_enter Tryz.func160, Tryz.ntmps160
      go_upto_region 1 with fail
      generalize w.alloc (.cells #[.int .i64 4, .slice (some ⟨b, o, none⟩) 1 c] 117) = w0 at *
      obtain ⟨k0, k1⟩ := cellP HRT.out
      go_wp2_with fail
      all_goals go_ret
      all_goals exact ⟨ret_bool (by first | rfl | simp), HB0.out⟩
    · go_enter Tryz.func160, Tryz.ntmps160
      go_upto_region 1 with fail
      generalize w.alloc (.cells #[.int .i64 5, .slice (some ⟨b, o, none⟩) 1 c] 117) = w0 at *
      obtain ⟨k0, k1⟩ := cellP HRT.out
      go_wp2_with fail
      all_goals go_ret
      all_goals exact ⟨ret_bool (by first | rfl | simp), HB0.out⟩
    · go_enter Tryz.func160, Tryz.ntmps160
      go_upto_region 1 with fail
      generalize w.alloc (.cells #[.int .i64 6, .slice (some ⟨b, o, none⟩) 1 c] 117) = w0 at *
      obtain ⟨k0, k1⟩ := cellP HRT.out
      go_wp2_with fail
      all_goals go_ret
      all_goals exact ⟨ret_bool (by first | rfl | simp), HB0.out⟩
  · have hp := hup rfl
    have HUP := hid (fun a b => up_I' hp a b)
    clear hup hp ho1 ho2 ho3 ho4
    rw [leafT_in]
    have HBS := hid (fun (w2 : World) (h : Below w.heap.size w w2) => BinarySearch64f_any (.slice A lits.length c) lits v w2 (HL.out.mono h) hll HUP.out)
    generalize decide (v ∈ lits) = fd at *
    generalize lits.length = n at *
    generalize firstGe lits v = fg at *
    go_enter Tryz.func160, Tryz.ntmps160
    go_upto_region 1 with fail
    generalize w.alloc (.cells #[.int .i64 7, .slice A n c] 117) = w0 at *
    obtain ⟨k0, k1⟩ := cellP HRT.out
    go_wp2_with (go_at_call 207; refine (HBS.out w0 HB0.out).mono ?_; rintro e w5 ⟨rfl, nn, hw5⟩; have HB5 : Hid (Below w0.heap.size w0 w5) := (hid (by rw [hw5]; exact bdrew (brefl w0) nn)); clear hw5 k0 k1)
    go_ret
    exact ⟨rfl, HB0.out.trans (HB5.out.mono HB0.out.size)⟩
  · obtain ⟨a, b2, rfl⟩ : ∃ a b2, lits = [a, b2] := by
      have := ho4 rfl
      match lits, this with
      | [x, y], _ => exact ⟨x, y, rfl⟩
    rw [leafT_two]
    clear ho1 ho2 ho3 ho4 hup hll
    obtain ⟨b, o, rfl, hs⟩ := (HL.out.mono HB0.out).atI (by simp)
    have c0 := hs 0 (by simp)
    have c1 := hs 1 (by simp)
    simp only [List.getD_cons_zero, List.getD_cons_succ, Nat.add_zero] at c0 c1
    have hl2 : [a, b2].length = 2 := rfl
    simp only [hl2] at HB0 HRT c0 c1 ⊢
    clear hs HL hl2
    by_cases h1 : a ≤ v
    · by_cases h2 : v ≤ b2
      all_goals (go_enter Tryz.func160, Tryz.ntmps160)
      · go_upto_region 1 with fail
        generalize w.alloc (.cells #[.int .i64 8, .slice (some ⟨b, o, none⟩) 2 c] 117) = w0 at *
        obtain ⟨k0, k1⟩ := cellP HRT.out
        go_wp2_with fail
        all_goals go_ret
        all_goals exact ⟨ret_bool (by simp [h1, h2]), HB0.out⟩
      · go_upto_region 1 with fail
        generalize w.alloc (.cells #[.int .i64 8, .slice (some ⟨b, o, none⟩) 2 c] 117) = w0 at *
        obtain ⟨k0, k1⟩ := cellP HRT.out
        go_wp2_with fail
        all_goals go_ret
        all_goals exact ⟨ret_bool (by simp [h1, h2]), HB0.out⟩
    · go_enter Tryz.func160, Tryz.ntmps160
      go_upto_region 1 with fail
      generalize w.alloc (.cells #[.int .i64 8, .slice (some ⟨b, o, none⟩) 2 c] 117) = w0 at *
      obtain ⟨k0, k1⟩ := cellP HRT.out
      go_wp2_with fail
      all_goals go_ret
      all_goals exact ⟨ret_bool (by simp; intro h; omega), HB0.out⟩
end Go.Proofs.YthonbfojpbfmgaaGreatDoor
