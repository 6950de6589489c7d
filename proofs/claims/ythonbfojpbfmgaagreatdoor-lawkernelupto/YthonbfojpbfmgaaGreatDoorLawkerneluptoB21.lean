/- LawKernel: the comparisons that the law asks, the codecs that always fit. -/
import Derived.Test.YthonbfojpbfmgaaGreatDoorLawkerneluptoB18
import Derived.Test.YthonbfojpbfmgaaGreatDoorLawkerneluptoB19
import Derived.Test.YthonbfojpbfmgaaGreatDoorLawkerneluptoB20
import Derived.Test.YthonbfojpbfmgaaGreatDoorLawkerneluptoB17
import Derived.Test.YthonbfojpbfmgaaGreatDoorLawkerneluptoB16
import Derived.Test.YthonbfojpbfmgaaGreatDoorLawkerneluptoB1
import Derived.Deep.CutBlock
import Derived.Deep.RegionHeld3
import Derived.Deep.DeepMust
import Derived.Test.YthonbfojpbfmgaaGreatDoorLawkerneluptoB9
import Derived.Test.YthonbfojpbfmgaaGreatDoorLawkerneluptoB5
set_option linter.unusedVariables false
set_option linter.unusedSimpArgs false
set_option linter.unnecessarySimpa false
set_option maxRecDepth 100000
namespace Go.Proofs.YthonbfojpbfmgaaGreatDoor
open Go.RowKit

/-- is the one cell less than the other? -/
def ltC (x y : C3) : Bool := decide (x.i < y.i) || Op.bytesLess x.s.toList y.s.toList
/-- does the leaf hold of the value, asked by < alone? -/
def hldB (op : Int) (v a b : C3) : Bool :=
  if op = 1 then !ltC v a && !ltC a v else if op = 2 then ltC v a || ltC a v else if op = 3 then ltC v a else if op = 4 then !ltC a v else if op = 5 then ltC a v else if op = 6 then !ltC v a
  else if op = 7 then (!ltC v a && !ltC a v) || (!ltC b v && !ltC v b) else !ltC v a && !ltC b v
def argsK (op : Int) (a b : C3) : List C3 := if op = 7 ∨ op = 8 then [a, b] else [a]
theorem ord_lt {k : Int} {x y : C3} (hk : isKind k = true) (hx : isVal k x = true) (hy : isVal k y = true) : ordP (pvOf x) (pvOf y) = (if ltC x y = true then -1 else if ltC y x = true then 1 else 0) ∧ (ltC x y && ltC y x) = false := by
  obtain ⟨xn, xi, xs⟩ := x
  obtain ⟨yn, yi, ys⟩ := y
  unfold isVal ofK at hx hy
  simp only [Bool.and_eq_true, Bool.not_eq_true'] at hx hy
  obtain ⟨rfl, hx⟩ := hx
  obtain ⟨rfl, hy⟩ := hy
  simp only [Bool.false_eq_true, if_false] at hx hy
  unfold pvOf ltC ordP
  simp only
  by_cases h1 : k = 1
  · rw [if_pos h1, List.isEmpty_iff] at hx hy
    rw [hx, hy]
    have e : ordS xs ys = 0 := by unfold ordS ltS eqS; rw [hx, hy]; rfl
    rw [e, show Op.bytesLess [] [] = false from rfl]
    simp only [Bool.or_false, decide_eq_true_eq]
    refine ⟨trivial, ?_⟩
    by_cases h : xi < yi
    · simp [h]; omega
    · simp [h]
  · rw [if_neg h1, decide_eq_true_eq] at hx hy
    obtain ⟨_, rfl, _⟩ := hx
    obtain ⟨_, rfl, _⟩ := hy
    simp only [Int.lt_irrefl, if_false, decide_false, Bool.false_or]
    unfold ordS ltS eqS
    cases h : Op.bytesLess xs.toList ys.toList
    · simp only [Bool.false_eq_true, if_false, Bool.false_or, Bool.false_and, and_true]
      by_cases he : xs.toList = ys.toList
      · rw [he, bytesLess_self]; simp
      · have := bytesLess_tri _ _ h he
        rw [this]; simp [he]
    · simp only [if_true, Bool.true_and, true_and]
      cases h2 : Op.bytesLess ys.toList xs.toList
      · rfl
      · have := bytesLess_trans _ _ _ h h2
        rw [bytesLess_self] at this
        cases this
theorem leaf_hold {k op : Int} {v a b : C3} (hk : isKind k = true) (ho : 1 ≤ op ∧ op ≤ 8) (hv : isVal k v = true) (ha : isVal k a = true) (hb : isVal k b = true) : leafT op ((argsK op a b).map pvOf) (pvOf v) = hldB op v a b := by
  obtain ⟨e1, x1⟩ := ord_lt hk hv ha
  obtain ⟨e2, x2⟩ := ord_lt hk hv hb
  have hoo : op = 1 ∨ op = 2 ∨ op = 3 ∨ op = 4 ∨ op = 5 ∨ op = 6 ∨ op = 7 ∨ op = 8 := by omega
  obtain ⟨s1, hs1⟩ : ∃ s1, ordP (pvOf v) (pvOf a) = s1 := ⟨_, rfl⟩
  obtain ⟨s2, hs2⟩ : ∃ s2, ordP (pvOf v) (pvOf b) = s2 := ⟨_, rfl⟩
  rw [hs1] at e1
  rw [hs2] at e2
  have g : leafT op ((argsK op a b).map pvOf) (pvOf v) = if op = 7 then decide (s1 = 0) || decide (s2 = 0) else if op = 8 then decide (0 ≤ s1) && decide (s2 ≤ 0) else standsS op s1 := by
    unfold leafT argsK
    rcases hoo with rfl | rfl | rfl | rfl | rfl | rfl | rfl | rfl <;> simp [eqP, hs1, hs2]
  rw [g]
  unfold hldB
  revert x1 x2 e1 e2
  generalize ltC v a = l1
  generalize ltC a v = g1
  generalize ltC v b = l2
  generalize ltC b v = g2
  clear hs1 hs2 g hv ha hb ho
  rcases hoo with rfl | rfl | rfl | rfl | rfl | rfl | rfl | rfl <;> cases l1 <;> cases g1 <;> cases l2 <;> cases g2 <;> (intro a1 a2 f1 f2; subst f1 f2; revert a1 a2; decide)
/-- the codec and the width that the law asks for -/
def fitC (kind : Int) (n : Nat) (pick : Nat) : Int × Int := if pick % 4 = 1 ∧ n ≤ 256 then (2, 0) else if pick % 4 = 2 then (3, 0) else if pick % 4 = 3 ∧ kind = 1 then (4, 64) else (1, 0)
theorem nodup_le {α : Type} : ∀ (ds vs : List α), ds.Nodup → (∀ x ∈ ds, x ∈ vs) → ds.length ≤ vs.length := by
  intro ds
  induction ds with
  | nil => intro vs _ _; simp
  | cons d r ih =>
    intro vs hn hs
    obtain ⟨s, t, rfl⟩ := List.append_of_mem (hs d List.mem_cons_self)
    have hnd := List.nodup_cons.1 hn
    have h := ih (s ++ t) hnd.2 (fun x hx => by
      have h1 := hs x (List.mem_cons_of_mem _ hx)
      rw [List.mem_append, List.mem_cons] at h1
      rw [List.mem_append]
      rcases h1 with h1 | h1 | h1
      · exact .inl h1
      · subst h1; exact absurd hx hnd.1
      · exact .inr h1)
    simp only [List.length_append, List.length_cons] at h ⊢
    omega
theorem fit_ok {kind : Int} {pick : Nat} {cs : List C3} (hk : isKind kind = true) (hl : cs.length ≤ 65536) (hc : cs.all (ofK kind) = true) : encCode kind (fitC kind cs.length pick).1 (fitC kind cs.length pick).2 cs = 0 := by
  have hvl : (valsOf cs).length ≤ cs.length := by unfold valsOf; rw [List.length_map]; exact List.length_filter_le _ _
  have hbad : ∀ c wd, isCodec kind c = true → isWd c wd = true → encBad kind c wd cs = false := fun c wd h1 h2 => by
    unfold encBad
    rw [h1, h2, hc]
    simp; omega
  unfold fitC
  split
  · rename_i h
    have h1 := nodup_le _ _ (diffP_nodup (valsOf cs)) (diffP_mem (valsOf cs))
    unfold encCode
    rw [hbad 2 0 (by unfold isCodec; rw [if_pos (by decide)]; exact hk) (by decide)]
    unfold payOk
    rw [show (2 : Int).toNat = 2 from rfl, if_pos rfl, decide_eq_true (by omega)]
    rfl
  · split
    · unfold encCode
      rw [hbad 3 0 (by unfold isCodec; rw [if_pos (by decide)]; exact hk) (by decide)]
      rfl
    · split
      · rename_i h
        unfold encCode
        rw [hbad 4 64 (by unfold isCodec; rw [if_neg (by decide), h.2]; decide) (by decide)]
        have hf : frameOk 64 (valsOf cs) = true := by
          unfold frameOk okVals
          rw [Bool.and_eq_true]
          constructor
          · unfold okLim lanesF
            rw [List.length_map]
            simp; omega
          · rw [List.all_eq_true]
            intro x hx
            unfold lanesF at hx
            obtain ⟨y, _, rfl⟩ := List.mem_map.1 hx
            exact decide_eq_true (Nat.mod_lt _ (by decide))
        unfold payOk
        rw [show (4 : Int).toNat = 4 from rfl, if_neg (by decide), if_pos rfl, hf]
        rfl
      · unfold encCode
        rw [hbad 1 0 (by unfold isCodec; rw [if_pos (by decide)]; exact hk) (by decide)]
        rfl
end Go.Proofs.YthonbfojpbfmgaaGreatDoor

/- Package kernel: bitmaps: new ones, ranges of bits, what is in one or the other, in both. -/
set_option linter.unusedVariables false
set_option linter.unusedSimpArgs false
set_option linter.unnecessarySimpa false
set_option maxRecDepth 100000
namespace Go.Proofs.YthonbfojpbfmgaaGreatDoor
open Go.RowKit

theorem newBitmap_any (n : Nat) (w : World) (hn : n ≤ 1048576) :
    Calls Tryz.prog 51 #[.int .i64 n] w fun e w' => e = .returned (.slice (some ⟨w.heap.size, 0, none⟩) ((n + 63) / 64) ((n + 63) / 64)) ∧
      Row w' w.heap.size 40 (u64s (List.replicate ((n + 63) / 64) 0)) ∧ Below w.heap.size w w' ∧ w'.heap.size = w.heap.size + 1 := by
  obtain ⟨q, hq⟩ : ∃ q, (n + 63) / 64 = q := ⟨_, rfl⟩
  have hq2 : ((n : Int) + 63) / 64 = (q : Int) := by omega
  have hq3 : q ≤ 1048576 := by omega
  rw [hq]
  clear hq
  go_enter Tryz.func51, Tryz.ntmps51
  go_wp2
  refine upon_make 40 (.int .u64 0) 8 Tryz.underlying28 Tryz.info45 rfl q (by omega) (by omega) (by omega) (by unfold maxLen; omega) ?_
  intro w1 hrow hb1 hsz1
  have hrow2 : Row w1 w.heap.size 40 (u64s (List.replicate q 0)) := by
    have e : u64s (List.replicate q 0) = List.replicate q (.int .u64 0) := by simp [u64s, u64]
    rw [e]; exact hrow
  have HROW := hid hrow2
  clear hrow hrow2
  go_wp2
  go_ret
  exact ⟨rfl, HROW.out, hb1, hsz1⟩
theorem testBit_range (k r p : Nat) : ((2 ^ k - 1) * 2 ^ r).testBit p = (decide (r ≤ p) && decide (p < r + k)) := by
  rw [← Nat.shiftLeft_eq, Nat.testBit_shiftLeft, Nat.testBit_two_pow_sub_one]
  by_cases h : r ≤ p
  · simp only [h, decide_true, Bool.true_and]
    rw [decide_eq_decide]; omega
  · simp [h]
theorem range_lt (k r : Nat) (h : k + r ≤ 64) : (2 ^ k - 1) * 2 ^ r < 18446744073709551616 := by
  have h1 : (2 ^ k - 1) * 2 ^ r < 2 ^ k * 2 ^ r := Nat.mul_lt_mul_of_pos_right (by have := Nat.two_pow_pos k; omega) (Nat.two_pow_pos r)
  rw [← Nat.pow_add] at h1
  have h2 : 2 ^ (k + r) ≤ 2 ^ 64 := Nat.pow_le_pow_right (by omega) h
  have h3 : (2 : Nat) ^ 64 = 18446744073709551616 := by decide
  omega
theorem or_lt_64 {a b : Nat} (ha : a < 18446744073709551616) (hb : b < 18446744073709551616) : a ||| b < 18446744073709551616 := by
  have h3 : (2 : Nat) ^ 64 = 18446744073709551616 := by decide
  rw [← h3] at ha hb ⊢
  exact Nat.or_lt_two_pow ha hb
theorem mem_set64 {zs : List Nat} {d v : Nat} (hz : ∀ x ∈ zs, x < 18446744073709551616) (hv : v < 18446744073709551616) : ∀ x ∈ zs.set d v, x < 18446744073709551616 := by
  intro x hx
  rcases List.mem_or_eq_of_mem_set hx with h | h
  · exact hz x h
  · rw [h]; exact hv
theorem getD64 {zs : List Nat} (hz : ∀ x ∈ zs, x < 18446744073709551616) (d : Nat) : zs.getD d 0 < 18446744073709551616 := by
  by_cases h : d < zs.length
  · have : zs.getD d 0 = zs[d] := by simp [List.getD, List.getElem?_eq_getElem h]
    rw [this]; exact hz _ (List.getElem_mem h)
  · have : zs.getD d 0 = 0 := by simp [List.getD, List.getElem?_eq_none (Nat.le_of_not_lt h)]
    rw [this]; decide
theorem bitOf_or_range (zs : List Nat) (s k : Nat) (hd : s / 64 < zs.length) (hk : k + s % 64 ≤ 64) (i : Nat) :
    bitOf (zs.set (s / 64) (zs.getD (s / 64) 0 ||| (2 ^ k - 1) * 2 ^ (s % 64))) i = (bitOf zs i || (decide (s ≤ i) && decide (i < s + k))) := by
  unfold bitOf
  by_cases hq : i / 64 = s / 64
  · have e : (zs.set (s / 64) (zs.getD (s / 64) 0 ||| (2 ^ k - 1) * 2 ^ (s % 64))).getD (i / 64) 0 = zs.getD (s / 64) 0 ||| (2 ^ k - 1) * 2 ^ (s % 64) := by
      rw [hq]; simp [List.getD, hd]
    rw [e, Nat.testBit_or, testBit_range, hq]
    congr 1
    rw [show decide (s % 64 ≤ i % 64) = decide (s ≤ i) from by rw [decide_eq_decide]; omega, show decide (i % 64 < s % 64 + k) = decide (i < s + k) from by rw [decide_eq_decide]; omega]
  · have e : (zs.set (s / 64) (zs.getD (s / 64) 0 ||| (2 ^ k - 1) * 2 ^ (s % 64))).getD (i / 64) 0 = zs.getD (i / 64) 0 := by
      simp only [List.getD]; rw [List.getElem?_set_ne (by omega)]
    rw [e]
    have : (decide (s ≤ i) && decide (i < s + k)) = false := by
      rw [← Bool.not_eq_true, Bool.and_eq_true, decide_eq_true_eq, decide_eq_true_eq]; omega
    rw [this, Bool.or_false]
/-- what a function that sets bits in a bitmap of the caller's leaves -/
def WordsOf (g n : Nat) (w w' : World) (F : Nat → Bool) : Prop := ∃ zs : List Nat, zs.length = n ∧ (∀ x ∈ zs, x < 18446744073709551616) ∧ (∀ i, bitOf zs i = F i) ∧ Row w' g 40 (u64s zs) ∧ Chg g g w w' ∧ w'.heap.size = w.heap.size
set_option maxHeartbeats 2000000 in
theorem setRange_any (g n cap s0 e0 : Nat) (ys : List Nat) (w : World) (hr : Row w g 40 (u64s ys)) (hn : ys.length = n) (hse : s0 ≤ e0) (he : e0 ≤ 64 * n) (hn2 : n ≤ 1048576) (hnc : n ≤ cap) (hy : ∀ x ∈ ys, x < 18446744073709551616) :
    Calls Tryz.prog 150 #[.slice (some ⟨g, 0, none⟩) n cap, .int .i64 s0, .int .i64 e0] w fun e w' => e = .returned (.tuple #[]) ∧ WordsOf g n w w' (fun i => bitOf ys i || (decide (s0 ≤ i) && decide (i < e0))) := by
  have HR := hid hr; have HN := hid hn; have HY := hid hy
  clear hr hn hy
  go_enter Tryz.func150, Tryz.ntmps150
  go_wp2_with fail
  go_loopw [1] (fun i wr => ∃ s : Nat, s0 ≤ s ∧ s ≤ e0 ∧ i = .int .i64 s ∧ Hid (∃ zs : List Nat, zs.length = n ∧ (∀ x ∈ zs, x < 18446744073709551616) ∧ (∀ i, bitOf zs i = (bitOf ys i || (decide (s0 ≤ i) && decide (i < s)))) ∧ Row wr g 40 (u64s zs) ∧ Chg g g w wr ∧ wr.heap.size = w.heap.size)) (fun i _ => e0 - (intOf i).toNat)
  case atStart => exact ⟨s0, by omega, by omega, rfl, hid ⟨ys, HN.out, HY.out, fun i => by
    have : (decide (s0 ≤ i) && decide (i < s0)) = false := by rw [← Bool.not_eq_true, Bool.and_eq_true, decide_eq_true_eq, decide_eq_true_eq]; omega
    rw [this, Bool.or_false], HR.out, Chg.refl _ _ _, rfl⟩⟩
  case round =>
    obtain ⟨s, h1, h2, rfl, HZ⟩ := hrel
    obtain ⟨zs, hz1, hz2, hz3, hz4, hz5, hz6⟩ := HZ.out
    have HZ1 := hid hz1; have HZ2 := hid hz2; have HZ3 := hid hz3; have HZ4 := hid hz4; have HZ5 := hid hz5; have HZ6 := hid hz6
    clear hz1 hz2 hz3 hz4 hz5 hz6 HZ
    by_cases hlt : s < e0
    · have hdl : s / 64 < zs.length := by rw [HZ1.out]; omega
      have hcell : wr.cell? ⟨g, s / 64, none⟩ = some (.int .u64 ((zs.getD (s / 64) 0 : Nat) : Int)) := by rw [HZ4.out.cell]; exact u64s_get zs (s / 64) hdl
      have hfr := HZ4.out.frozen (s / 64)
      have HQL := hid (getD64 HZ2.out (s / 64))
      obtain ⟨st, hst⟩ : ∃ st, (if s / 64 * 64 + 64 < e0 then s / 64 * 64 + 64 else e0) = st := ⟨_, rfl⟩
      have hsv : s < st ∧ st ≤ e0 ∧ st ≤ s / 64 * 64 + 64 := by rw [← hst]; split <;> omega
      obtain ⟨k, hk⟩ : ∃ k, st - s = k := ⟨_, rfl⟩
      have hkr : k + s % 64 ≤ 64 := by omega
      have HBR := hid (bitOf_or_range zs s k hdl hkr)
      have HRL := hid (range_lt k (s % 64) hkr)
      have HLB := hid (low_bits k (by omega))
      have hminI : (if ((s / 64 : Nat) : Int) * 64 + 64 < (e0 : Int) then ((s / 64 : Nat) : Int) * 64 + 64 else (e0 : Int)) = (st : Int) := by rw [← hst]; split <;> split <;> omega
      have HMI := hid hminI
      have HMI2 : Hid (min (e0 : Int) (((s / 64 : Nat) : Int) * 64 + 64) = (st : Int)) := hid (by rw [← hst]; split <;> omega)
      have HSET := hid (fun (v : Nat) => HZ4.out.set (s / 64) (.int .u64 (v : Int)))
      have HCH := hid (fun (v : Value) => HZ5.out.setCell g (s / 64) v (.inl rfl))
      have HST := hid hst
      obtain ⟨d, hd⟩ : ∃ d, s / 64 = d := ⟨_, rfl⟩
      obtain ⟨r, hr'⟩ : ∃ r, s % 64 = r := ⟨_, rfl⟩
      have hd' : (s : Int) / 64 = (d : Int) := by omega
      have hrr : (s : Int) % 64 = (r : Int) := by omega
      have hsk : (st : Int) - (s : Int) = (k : Int) := by omega
      have hr64 : r < 64 := by omega
      rw [hd] at hcell hfr HQL HBR HMI HMI2 HSET HCH
      rw [hr'] at HBR HRL
      have hdn : d < n := by have := HZ1.out; omega
      have hst1 : s < st := hsv.1
      have hst2 : st ≤ e0 := hsv.2.1
      have HSK : Hid (s + k = st) := hid (by omega)
      have HKV := hid hk
      have hmn := HMI.out
      have hmn2 := HMI2.out
      clear hd hr' hst hsv hdl hkr hk hminI
      generalize zs.getD d 0 = q at *
      have hw1 := HLB.out
      obtain ⟨on, hon⟩ : ∃ on, 2 ^ k - 1 = on := ⟨_, rfl⟩
      rw [hon] at hw1 HRL HBR
      have hw2 : IntKind.u64.wrap ((on : Int) * 2 ^ r) = ((on * 2 ^ r : Nat) : Int) := by
        rw [show (on : Int) * 2 ^ r = ((on * 2 ^ r : Nat) : Int) by simp]; exact wrap_u64_nat _ HRL.out
      generalize on * 2 ^ r = sh at *
      have HOR := hid (u64_or_nat q sh HQL.out HRL.out)
      have HOL := hid (or_lt_64 HQL.out HRL.out)
      clear hon HLB
      have hor := HOR.out
      go_wp2_with fail
      go_roundw
      case rel =>
        refine ⟨st, by omega, by omega, rfl, hid ⟨zs.set d (q ||| sh), by rw [List.length_set]; exact HZ1.out, mem_set64 HZ2.out HOL.out, fun i => ?_, ?_, HCH.out _, by simpa [World.setCell] using HZ6.out⟩⟩
        · rw [HBR.out i, HZ3.out i, Bool.or_assoc]
          congr 1
          rw [HSK.out, Bool.eq_iff_iff]
          simp only [Bool.or_eq_true, Bool.and_eq_true, decide_eq_true_eq]
          omega
        · rw [← u64s_set]
          exact HSET.out (q ||| sh)
      case measure => simp [intOf]; omega
    · obtain rfl : s = e0 := by omega
      go_wp2_with fail
      go_end0
      exact ⟨rfl, zs, HZ1.out, HZ2.out, HZ3.out, HZ4.out, HZ5.out, HZ6.out⟩
theorem Rd.atU {w : World} {D : Option Addr} {n m cd : Nat} {xs : List Nat} (h : Rd w (.slice D n cd) m 1 (u64s xs)) (h0 : 0 < m) : ∃ b o, D = some ⟨b, o, none⟩ ∧
    ∀ k, k < xs.length → w.cell? ⟨b, o + k, none⟩ = some (.int .u64 ((xs.getD k 0 : Nat) : Int)) := by
  rcases h.2 with ⟨_, rfl⟩ | ⟨b, o, cap', he, _, _, hs⟩
  · exact absurd h0 (Nat.lt_irrefl 0)
  · injection he with e1 e2 e3
    exact ⟨b, o, e1, fun k hk => hs.word k hk⟩
set_option maxHeartbeats 2000000 in
theorem unite_any (g n cap : Nat) (v : Value) (ys xs : List Nat) (w : World) (hr : Row w g 40 (u64s ys)) (hn : ys.length = n) (hx : ∀ w', Chg g g w w' → Rd w' v n 1 (u64s xs)) (hxn : xs.length = n) (hn2 : n ≤ 1048576) (hnc : n ≤ cap) (hy : ∀ x ∈ ys, x < 18446744073709551616) (hxv : ∀ x ∈ xs, x < 18446744073709551616) :
    Calls Tryz.prog 151 #[.slice (some ⟨g, 0, none⟩) n cap, v] w fun e w' => e = .returned (.tuple #[]) ∧ WordsOf g n w w' (fun i => bitOf ys i || bitOf xs i) := by
  have HR := hid hr; have HN := hid hn; have HY := hid hy; have HX := hid hx; have HXN := hid hxn; have HXV := hid hxv
  obtain ⟨A, ca, rfl, _, _, _⟩ := (hx w (Chg.refl _ _ _)).form
  clear hr hn hy hx hxn hxv
  go_enter Tryz.func151, Tryz.ntmps151
  go_wp2_with fail
  go_loopw [8] (fun i wr => ∃ j : Nat, j ≤ n ∧ i = .int .i64 j ∧ Hid (∃ zs : List Nat, zs.length = n ∧ (∀ x ∈ zs, x < 18446744073709551616) ∧ (∀ t, zs.getD t 0 = if t < j then ys.getD t 0 ||| xs.getD t 0 else ys.getD t 0) ∧ Row wr g 40 (u64s zs) ∧ Chg g g w wr ∧ wr.heap.size = w.heap.size)) (fun i _ => n - (intOf i).toNat)
  case atStart => exact ⟨0, by omega, rfl, hid ⟨ys, HN.out, HY.out, fun t => by rw [if_neg (Nat.not_lt_zero t)], HR.out, Chg.refl _ _ _, rfl⟩⟩
  case round =>
    obtain ⟨j, hj, rfl, HZ⟩ := hrel
    obtain ⟨zs, hz1, hz2, hz3, hz4, hz5, hz6⟩ := HZ.out
    have HZ1 := hid hz1; have HZ2 := hid hz2; have HZ3 := hid hz3; have HZ4 := hid hz4; have HZ5 := hid hz5; have HZ6 := hid hz6
    clear hz1 hz2 hz3 hz4 hz5 hz6 HZ
    by_cases hlt : j < n
    · obtain ⟨b, o, rfl, hs⟩ := Rd.atU (HX.out wr HZ5.out) (by omega)
      have l0 := hs j (by rw [HXN.out]; exact hlt)
      clear hs
      have hcell : wr.cell? ⟨g, j, none⟩ = some (.int .u64 ((zs.getD j 0 : Nat) : Int)) := by rw [HZ4.out.cell]; exact u64s_get zs j (by rw [HZ1.out]; exact hlt)
      have hfr := HZ4.out.frozen j
      have HJ : Hid (zs.getD j 0 = ys.getD j 0) := hid (by rw [HZ3.out, if_neg (by omega)])
      have HQL := hid (getD64 HZ2.out j)
      have HXL := hid (getD64 HXV.out j)
      have HSET := hid (fun (v : Nat) => HZ4.out.set j (.int .u64 (v : Int)))
      have HCH := hid (fun (v : Value) => HZ5.out.setCell g j v (.inl rfl))
      generalize zs.getD j 0 = q at *
      obtain ⟨x, hx⟩ : ∃ x, xs.getD j 0 = x := ⟨_, rfl⟩
      rw [hx] at l0 HXL
      have HXE := hid hx
      clear hx
      have hor := u64_or_nat q x HQL.out HXL.out
      have HOL := hid (or_lt_64 HQL.out HXL.out)
      go_wp2_with fail
      go_roundw
      case rel =>
        refine ⟨j + 1, by omega, by go_num, hid ⟨zs.set j (q ||| x), by rw [List.length_set]; exact HZ1.out, mem_set64 HZ2.out HOL.out, fun t => ?_, ?_, HCH.out _, by simpa [World.setCell] using HZ6.out⟩⟩
        · by_cases ht : t = j
          · subst ht
            rw [if_pos (by omega), HXE.out, ← HJ.out]
            simp [List.getD, show t < zs.length by rw [HZ1.out]; exact hlt]
          · have e : (zs.set j (q ||| x)).getD t 0 = zs.getD t 0 := by simp only [List.getD]; rw [List.getElem?_set_ne (fun h => ht h.symm)]
            rw [e, HZ3.out]
            by_cases h2 : t < j
            · rw [if_pos h2, if_pos (by omega)]
            · rw [if_neg h2, if_neg (by omega)]
        · rw [← u64s_set]
          exact HSET.out (q ||| x)
      case measure => simp [intOf]; omega
    · obtain rfl : j = n := by omega
      go_wp2_with fail
      go_end0
      refine ⟨rfl, zs, HZ1.out, HZ2.out, fun i => ?_, HZ4.out, HZ5.out, HZ6.out⟩
      simp only [bitOf]
      rw [HZ3.out]
      by_cases h : i / 64 < j
      · rw [if_pos h, Nat.testBit_or]
      · rw [if_neg h]
        have e : xs.getD (i / 64) 0 = 0 := by simp [List.getD, List.getElem?_eq_none (show xs.length ≤ i / 64 by rw [HXN.out]; omega)]
        rw [e, Nat.zero_testBit, Bool.or_false]
end Go.Proofs.YthonbfojpbfmgaaGreatDoor

/- Package kernel: the bitmap of the values for which a test holds (what both kinds have in common). -/
set_option linter.unusedVariables false
set_option linter.unusedSimpArgs false
set_option linter.unnecessarySimpa false
set_option maxRecDepth 100000
namespace Go.Proofs.YthonbfojpbfmgaaGreatDoor
open Go.RowKit

/-- a bitmap of n bits, by a function -/
def BitsOf (n : Nat) (F : Nat → Bool) (zs : List Nat) : Prop := zs.length = (n + 63) / 64 ∧ (∀ x ∈ zs, x < 18446744073709551616) ∧ ∀ i, bitOf zs i = (decide (i < n) && F i)
/-- what a list of hits answers -/
def HitAns (w w' : World) (e : Ending) (n : Nat) (F : Nat → Bool) : Prop :=
  ∃ v zs, e = .returned v ∧ BitsOf n F zs ∧ Rd w' v ((n + 63) / 64) 1 (u64s zs) ∧ Below w.heap.size w w'
/-- the bits below s, in words for n -/
def BitsTo (n s : Nat) (F : Nat → Bool) (zs : List Nat) : Prop := zs.length = (n + 63) / 64 ∧ (∀ x ∈ zs, x < 18446744073709551616) ∧ ∀ i, bitOf zs i = (decide (i < s) && F i)
theorem BitsTo.start (n : Nat) (F : Nat → Bool) : BitsTo n 0 F (List.replicate ((n + 63) / 64) 0) := by
  refine ⟨by simp, fun x hx => by rw [(List.mem_replicate.1 hx).2]; omega, fun i => ?_⟩
  have e : (List.replicate ((n + 63) / 64) 0).getD (i / 64) 0 = 0 := by
    simp only [List.getD]
    by_cases h : i / 64 < (n + 63) / 64
    · rw [List.getElem?_replicate, if_pos h]; rfl
    · rw [List.getElem?_replicate, if_neg h]; rfl
  unfold bitOf
  rw [e]; simp
theorem BitsTo.full {n : Nat} {F : Nat → Bool} {zs : List Nat} (h : BitsTo n n F zs) : BitsOf n F zs := h
theorem BitsTo.set {n s s' : Nat} {F : Nat → Bool} {ys zs : List Nat} (h : BitsTo n s F ys) (h1 : zs.length = (n + 63) / 64) (h2 : ∀ x ∈ zs, x < 18446744073709551616)
    (h3 : ∀ i, bitOf zs i = (bitOf ys i || (decide (s ≤ i) && decide (i < s')))) (hs : s ≤ s') (hF : ∀ i, s ≤ i → i < s' → F i = true) : BitsTo n s' F zs := by
  refine ⟨h1, h2, fun i => ?_⟩
  rw [h3, h.2.2]
  by_cases h4 : i < s
  · simp [h4, show i < s' by omega, show ¬ s ≤ i by omega]
  · by_cases h5 : i < s'
    · simp [h4, h5, show s ≤ i by omega, hF i (by omega) h5]
    · simp [h4, h5]
theorem BitsTo.skip {n s s' : Nat} {F : Nat → Bool} {ys : List Nat} (h : BitsTo n s F ys) (hs : s ≤ s') (hF : ∀ i, s ≤ i → i < s' → F i = false) : BitsTo n s' F ys := by
  refine ⟨h.1, h.2.1, fun i => ?_⟩
  rw [h.2.2]
  by_cases h4 : i < s
  · simp [h4, show i < s' by omega]
  · by_cases h5 : i < s'
    · simp [h4, h5, hF i (by omega) h5]
    · simp [h4, h5]
theorem setRange1_any (q m n j : Nat) (ys : List Nat) (w : World) (hr : Row w q 40 (u64s ys)) (hn : ys.length = (n + 63) / 64) (hm : (n + 63) / 64 = m) (hj : j < n) (hn2 : n ≤ 65536) (hy : ∀ x ∈ ys, x < 18446744073709551616) :
    Calls Tryz.prog 150 #[.slice (some ⟨q, 0, none⟩) m m, .int .i64 j, .int .i64 ((j : Int) + 1)] w fun e w' => e = .returned (.tuple #[]) ∧ WordsOf q m w w' (fun i => bitOf ys i || (decide (j ≤ i) && decide (i < j + 1))) := by
  have h := setRange_any q m m j (j + 1) ys w hr (by omega) (by omega) (by omega) (by omega) (Nat.le_refl _) hy
  simpa only [Int.natCast_add, Int.natCast_one] using h
/-- where run number t starts -/
def endB (ends : List Nat) (t : Nat) : Nat := if t = 0 then 0 else ends.getD (t - 1) 0
theorem endB_le {ends : List Nat} (h : ∀ a b, a < b → b < ends.length → ends.getD a 0 < ends.getD b 0) {t : Nat} (ht : t < ends.length) : endB ends t ≤ ends.getD t 0 := by
  unfold endB
  by_cases h0 : t = 0
  · rw [if_pos h0]; omega
  · rw [if_neg h0]; exact Nat.le_of_lt (h _ _ (by omega) ht)
theorem end_le_last {ends : List Nat} (h : ∀ a b, a < b → b < ends.length → ends.getD a 0 < ends.getD b 0) {t n : Nat} (ht : t < ends.length) (hn : ends.length = n) : ends.getD t 0 ≤ endB ends n := by
  unfold endB
  rw [if_neg (by omega)]
  by_cases h0 : t = n - 1
  · rw [h0]; exact Nat.le_refl _
  · exact Nat.le_of_lt (h _ _ (by omega) (by omega))
theorem nI_get (xs : List Nat) (k : Nat) (h : k < xs.length) : (nI xs).getD k 0 = (xs.getD k 0 : Nat) := by
  unfold nI
  simp [List.getD, List.getElem?_map, List.getElem?_eq_getElem h]
theorem firstGe_run {ends : List Nat} (h : ∀ a b, a < b → b < ends.length → ends.getD a 0 < ends.getD b 0) {t i : Nat} (ht : t < ends.length) (h1 : endB ends t ≤ i) (h2 : i < ends.getD t 0) : firstGe (nI ends) ((i : Int) + 1) = t := by
  refine firstGe_eq _ _ t (by rw [nI_length]; omega) (fun a ha => ?_) (fun _ => ?_)
  · rw [nI_get ends a (by omega)]
    unfold endB at h1
    rw [if_neg (by omega)] at h1
    by_cases h0 : a = t - 1
    · subst h0; omega
    · have := h a (t - 1) (by omega) (by omega); omega
  · rw [nI_get ends t ht]; omega
end Go.Proofs.YthonbfojpbfmgaaGreatDoor

/- Package kernel: a relation to a literal as one to a lane. -/
set_option linter.unusedVariables false
set_option linter.unusedSimpArgs false
set_option linter.unnecessarySimpa false
set_option maxRecDepth 100000
namespace Go.Proofs.YthonbfojpbfmgaaGreatDoor
open Go.RowKit

def besO (op : Int) : Int := if op = 1 then 3 else if op = 2 then 6 else if op = 4 then 3 else if op = 5 then 6 else op
def besC (op : Int) (c : Nat) : Nat := if op = 1 then 0 else if op = 2 then 0 else c
theorem besides_any (op : Int) (c : Nat) (w : World) (h : 1 ≤ op ∧ op ≤ 6) : Calls Tryz.prog 192 #[.int .i64 op, .int .u64 c] w fun e w' => e = .returned (.tuple #[.int .i64 (besO op), .int .u64 (besC op c)]) ∧ w' = w := by
  have ho : op = 1 ∨ op = 2 ∨ op = 3 ∨ op = 4 ∨ op = 5 ∨ op = 6 := by omega
  clear h
  rcases ho with rfl | rfl | rfl | rfl | rfl | rfl
  all_goals go_enter Tryz.func192, Tryz.ntmps192
  all_goals go_wp2
  all_goals go_ret2
  all_goals exact ⟨rfl, rfl⟩
def laO (e : Bool) (op : Int) : Int := if e = true then op else besO op
def laC (e : Bool) (op : Int) (c : Nat) : Nat := if e = true then c else besC op c
theorem laO_rel (e : Bool) (op : Int) (h : 1 ≤ op ∧ op ≤ 6) : isRel (laO e op) = true := by
  unfold isRel laO besO
  have ho : op = 1 ∨ op = 2 ∨ op = 3 ∨ op = 4 ∨ op = 5 ∨ op = 6 := by omega
  clear h
  rcases ho with rfl | rfl | rfl | rfl | rfl | rfl <;> cases e <;> decide
theorem laC_le (e : Bool) (op : Int) (c : Nat) : laC e op c ≤ c := by
  unfold laC besC
  split
  · exact Nat.le_refl _
  · split
    · omega
    · split <;> omega
/-- the lane's relation is the value's -/
theorem rel_lane (op : Int) (h : 1 ≤ op ∧ op ≤ 6) (L c : Nat) (e : Bool) (sg : Int) (h1 : sg < 0 ↔ L < c) (h2 : sg = 0 ↔ (e = true ∧ L = c)) : standsB (laO e op) L (laC e op c) = standsS op sg := by
  have ho : op = 1 ∨ op = 2 ∨ op = 3 ∨ op = 4 ∨ op = 5 ∨ op = 6 := by omega
  clear h
  unfold standsB standsS laO laC besO besC
  cases e
  · have h3 : sg ≠ 0 := fun hh => by have := h2.1 hh; exact absurd this.1 (by decide)
    clear h2
    rcases ho with rfl | rfl | rfl | rfl | rfl | rfl
    all_goals simp
    all_goals by_cases hs : sg < 0
    all_goals (have h4 := h1; simp only [hs, true_iff, false_iff] at h4)
    all_goals omega
  · simp only [true_and] at h2
    rcases ho with rfl | rfl | rfl | rfl | rfl | rfl
    all_goals simp
    all_goals by_cases hs : sg < 0
    all_goals by_cases hs0 : sg = 0
    all_goals (have h4 := h1; have h5 := h2; simp only [hs, hs0, true_iff, false_iff] at h4 h5)
    all_goals omega
end Go.Proofs.YthonbfojpbfmgaaGreatDoor

/- Package kernel: bitmaps that the lanes' comparison made. -/
set_option linter.unusedVariables false
set_option linter.unusedSimpArgs false
set_option linter.unnecessarySimpa false
set_option maxRecDepth 100000
namespace Go.Proofs.YthonbfojpbfmgaaGreatDoor
open Go.RowKit

def WordsT (tl : List Value) (g n : Nat) (w w' : World) (F : Nat → Bool) : Prop := ∃ zs : List Nat, zs.length = n ∧ (∀ x ∈ zs, x < 18446744073709551616) ∧ (∀ i, bitOf zs i = F i) ∧ Row w' g 40 (u64s zs ++ tl) ∧ Chg g g w w' ∧ w'.heap.size = w.heap.size
set_option maxHeartbeats 2000000 in
theorem intersectT_any (g n cap : Nat) (v : Value) (ys xs : List Nat) (tl : List Value) (w : World) (hr : Row w g 40 (u64s ys ++ tl)) (hn : ys.length = n) (hx : ∀ w', Chg g g w w' → Rd w' v n 1 (u64s xs)) (hxn : xs.length = n) (hn2 : n ≤ 1048576) (hnc : n ≤ cap) (hy : ∀ x ∈ ys, x < 18446744073709551616) (hxv : ∀ x ∈ xs, x < 18446744073709551616) :
    Calls Tryz.prog 153 #[.slice (some ⟨g, 0, none⟩) n cap, v] w fun e w' => e = .returned (.tuple #[]) ∧ WordsT tl g n w w' (fun i => bitOf ys i && bitOf xs i) := by
  have HR := hid hr; have HN := hid hn; have HY := hid hy; have HX := hid hx; have HXN := hid hxn; have HXV := hid hxv
  obtain ⟨A, ca, rfl, _, _, _⟩ := (hx w (Chg.refl _ _ _)).form
  clear hr hn hy hx hxn hxv
  go_enter Tryz.func153, Tryz.ntmps153
  go_wp2_with fail
  go_loopw [8] (fun i wr => ∃ j : Nat, j ≤ n ∧ i = .int .i64 j ∧ Hid (∃ zs : List Nat, zs.length = n ∧ (∀ x ∈ zs, x < 18446744073709551616) ∧ (∀ t, zs.getD t 0 = if t < j then ys.getD t 0 &&& xs.getD t 0 else ys.getD t 0) ∧ Row wr g 40 (u64s zs ++ tl) ∧ Chg g g w wr ∧ wr.heap.size = w.heap.size)) (fun i _ => n - (intOf i).toNat)
  case atStart => exact ⟨0, by omega, rfl, hid ⟨ys, HN.out, HY.out, fun t => by rw [if_neg (Nat.not_lt_zero t)], HR.out, Chg.refl _ _ _, rfl⟩⟩
  case round =>
    obtain ⟨j, hj, rfl, HZ⟩ := hrel
    obtain ⟨zs, hz1, hz2, hz3, hz4, hz5, hz6⟩ := HZ.out
    have HZ1 := hid hz1; have HZ2 := hid hz2; have HZ3 := hid hz3; have HZ4 := hid hz4; have HZ5 := hid hz5; have HZ6 := hid hz6
    clear hz1 hz2 hz3 hz4 hz5 hz6 HZ
    by_cases hlt : j < n
    · obtain ⟨b, o, rfl, hs⟩ := Rd.atU (HX.out wr HZ5.out) (by omega)
      have l0 := hs j (by rw [HXN.out]; exact hlt)
      clear hs
      have hcell : wr.cell? ⟨g, j, none⟩ = some (.int .u64 ((zs.getD j 0 : Nat) : Int)) := by rw [HZ4.out.cell, List.getElem?_append_left (by simp [u64s]; rw [HZ1.out]; exact hlt)]; exact u64s_get zs j (by rw [HZ1.out]; exact hlt)
      have hfr := HZ4.out.frozen j
      have HJ : Hid (zs.getD j 0 = ys.getD j 0) := hid (by rw [HZ3.out, if_neg (by omega)])
      have HQL := hid (getD64 HZ2.out j)
      have HXL := hid (getD64 HXV.out j)
      have HSET := hid (fun (v : Nat) => by have hh := HZ4.out.set j (.int .u64 (v : Int)); rw [List.set_append_left _ _ (by simp [u64s]; rw [HZ1.out]; exact hlt)] at hh; exact hh)
      have HCH := hid (fun (v : Value) => HZ5.out.setCell g j v (.inl rfl))
      generalize zs.getD j 0 = q at *
      obtain ⟨x, hx⟩ : ∃ x, xs.getD j 0 = x := ⟨_, rfl⟩
      rw [hx] at l0 HXL
      have HXE := hid hx
      clear hx
      have hor := u64_and_nat q x HQL.out HXL.out
      have HOL := hid (Nat.lt_of_le_of_lt (Nat.and_le_left (n := q) (m := x)) HQL.out)
      go_wp2_with fail
      go_roundw
      case rel =>
        refine ⟨j + 1, by omega, by go_num, hid ⟨zs.set j (q &&& x), by rw [List.length_set]; exact HZ1.out, mem_set64 HZ2.out HOL.out, fun t => ?_, ?_, HCH.out _, by simpa [World.setCell] using HZ6.out⟩⟩
        · by_cases ht : t = j
          · subst ht
            rw [if_pos (by omega), HXE.out, ← HJ.out]
            simp [List.getD, show t < zs.length by rw [HZ1.out]; exact hlt]
          · have e : (zs.set j (q &&& x)).getD t 0 = zs.getD t 0 := by simp only [List.getD]; rw [List.getElem?_set_ne (fun h => ht h.symm)]
            rw [e, HZ3.out]
            by_cases h2 : t < j
            · rw [if_pos h2, if_pos (by omega)]
            · rw [if_neg h2, if_neg (by omega)]
        · rw [← u64s_set]
          exact HSET.out (q &&& x)
      case measure => simp [intOf]; omega
    · obtain rfl : j = n := by omega
      go_wp2_with fail
      go_end0
      refine ⟨rfl, zs, HZ1.out, HZ2.out, fun i => ?_, HZ4.out, HZ5.out, HZ6.out⟩
      simp only [bitOf]
      rw [HZ3.out]
      by_cases h : i / 64 < j
      · rw [if_pos h, Nat.testBit_and]
      · rw [if_neg h]
        have e : ys.getD (i / 64) 0 = 0 := by simp [List.getD, List.getElem?_eq_none (show ys.length ≤ i / 64 by rw [HN.out]; omega)]
        rw [e, Nat.zero_testBit, Bool.false_and]

theorem owns_tail {w : World} {B n : Nat} {e : TypeId} {v : Value} {cs : List Value} (h : w.ownsRow B e 1 v n cs) : (v = .slice none 0 0 ∧ n = 0 ∧ cs = []) ∨ ∃ g cap tl, v = .slice (some ⟨g, 0, none⟩) n cap ∧ B ≤ g ∧ Row w g e (cs ++ tl) ∧ n ≤ cap ∧ cap ≤ maxLen ∧ cs.length = n := by
  rcases h.2 with ⟨h1, h2⟩ | ⟨g, cap, cur, h1, h2, h3, h4, h5, h6, h7⟩
  · subst h2
    exact .inl ⟨h1, rfl, List.eq_nil_of_length_eq_zero (by have := h.1; omega)⟩
  · refine .inr ⟨g, cap, cur.toList.drop n, h1, h2, ?_, h4, h5, by have := h.1; omega⟩
    unfold Row
    rw [h3]
    have e1 : cs ++ cur.toList.drop n = cur.toList := by
      rw [← h7, Nat.mul_one]; exact List.take_append_drop n cur.toList
    rw [e1]
theorem intersectN_any (v : Value) (c : Nat) (A : Option Addr) (w : World) : Calls Tryz.prog 153 #[.slice none 0 0, .slice A 0 c] w fun e w' => e = .returned (.tuple #[]) ∧ w' = w := by
  go_enter Tryz.func153, Tryz.ntmps153
  go_wp2_with fail
  go_loopw [8] (fun i wr => i = .int .i64 0 ∧ wr = w) (fun i _ => 0)
  case atStart => exact ⟨rfl, rfl⟩
  case round =>
    obtain ⟨rfl, rfl⟩ := hrel
    go_wp2_with fail
    go_end0
    exact ⟨rfl, rfl⟩
theorem intersectO_any (B C n : Nat) (u v : Value) (ys xs : List Nat) (w : World) (hu : w.ownsRow B 40 1 u n (u64s ys)) (hv : w.ownsRow C 40 1 v n (u64s xs)) (hB : B ≤ w.heap.size) (hsep : ∀ k, u.ownBlock = some k → k < C) (hn2 : n ≤ 1048576) (hy : ∀ x ∈ ys, x < 18446744073709551616) (hxv : ∀ x ∈ xs, x < 18446744073709551616) :
    Calls Tryz.prog 153 #[u, v] w fun e w' => e = .returned (.tuple #[]) ∧ Below B w w' ∧ ∃ zs : List Nat, zs.length = n ∧ (∀ x ∈ zs, x < 18446744073709551616) ∧ (∀ i, bitOf zs i = (bitOf ys i && bitOf xs i)) ∧ Rd w' u n 1 (u64s zs) := by
  have hxn : xs.length = n := by have := hv.1; simpa [u64s] using this
  have hyn : ys.length = n := by have := hu.1; simpa [u64s] using this
  rcases owns_tail hu with ⟨rfl, rfl, h3⟩ | ⟨g, cap, tl, rfl, h2, h3, h4, h5, h6⟩
  · obtain ⟨A, c, rfl, _⟩ := owns_form hv
    refine (intersectN_any (.slice none 0 0) c A w).mono ?_
    rintro e w' ⟨rfl, rfl⟩
    obtain rfl : ys = [] := List.eq_nil_of_length_eq_zero hyn
    obtain rfl : xs = [] := List.eq_nil_of_length_eq_zero hxn
    exact ⟨rfl, Below.refl _ _, [], rfl, by simp, fun i => by simp [bitOf], owns_rd hu⟩
  · have hgC := hsep g rfl
    refine (intersectT_any g n cap v ys xs tl w h3 hyn (fun w' hc => owns_rd (owns_chg hv hc hgC hgC)) hxn hn2 h4 hy hxv).mono ?_
    rintro e w' ⟨rfl, zs, hz1, hz2, hz3, hz4, hz5, hz6⟩
    refine ⟨rfl, hz5.below (Below.refl _ _) hB h2 h2, zs, hz1, hz2, hz3, ?_⟩
    have hs := hz4.seg 0 n
    refine ⟨by simp [u64s, hz1], .inr ⟨g, 0, cap, rfl, h4, h5, ?_⟩⟩
    have e1 : ((u64s zs ++ tl).drop 0).take n = u64s zs := by
      rw [List.drop_zero]
      exact List.take_left' (by simp [u64s, hz1])
    rw [e1] at hs
    exact hs
theorem nWords1k (n : Nat) : L.nWords 1 n = (n + 63) / 64 := by unfold L.nWords; simp
theorem cmpR_bits (wd count : Nat) (op : Int) (lanes : List Nat) (c : Nat) (h : cmpOk wd count op lanes = true) : BitsOf count (cmpF wd op lanes c) (cmpR wd count op lanes c) := by
  unfold cmpR
  rw [if_pos h]
  have hb := bmL_isBm ((List.range (count : Int).toNat).map (cmpF (wd : Int).toNat op lanes c))
  obtain ⟨h1, h2, h3⟩ := hb
  simp only [List.length_map, List.length_range, Int.toNat_natCast] at h1 h2 h3 ⊢
  rw [nWords1k] at h1
  refine ⟨h1, h2, fun i => ?_⟩
  by_cases hi : i < 64 * (bmL ((List.range count).map (cmpF wd op lanes c))).length
  · rw [h3 i hi]
    by_cases hn : i < count
    · simp [hn, List.getD]
    · simp [hn]
  · rw [bitOf_out _ _ (by omega)]
    simp [show ¬ i < count by omega]
end Go.Proofs.YthonbfojpbfmgaaGreatDoor

/- Package kernel: the hits of chunks that hold a list (of integers). -/
set_option linter.unusedVariables false
set_option linter.unusedSimpArgs false
set_option linter.unnecessarySimpa false
set_option maxRecDepth 100000
namespace Go.Proofs.YthonbfojpbfmgaaGreatDoor
open Go.RowKit

/-- a leaf's literals in memory -/
structure Lit_I (w : World) (op : Int) (lv : Value) (lits : List Int) : Prop where
  rd : Rd w lv lits.length 1 (i64s lits)
  ok : litsOk op lits.length
  up : op = 7 → lits.Pairwise (· < ·)
  le : lits.length ≤ 1048576
theorem Lit_I.mono {w w' : World} {op : Int} {lv : Value} {lits : List Int} (h : Lit_I w op lv lits) (hb : Below w.heap.size w w') : Lit_I w' op lv lits := ⟨h.rd.mono hb, h.ok, h.up, h.le⟩
theorem Lit_I.holds {w : World} {op : Int} {lv : Value} {lits : List Int} (h : Lit_I w op lv lits) (v : Int) :
    Calls Tryz.prog 160 #[.agg #[.int .i64 op, lv], .int .i64 v] w fun e w' => e = .returned (.bool (leafT op (lits.map pI) (pI v))) ∧ Below w.heap.size w w' :=
  holdsI_any op lits lv v w h.rd h.ok h.up h.le
theorem Rd.at_I {w : World} {D : Option Addr} {n m cd : Nat} {xs : List Int} (h : Rd w (.slice D n cd) m 1 (lstI xs)) (h0 : 0 < m) : ∃ b o, D = some ⟨b, o, none⟩ ∧
    ∀ k, k < xs.length → w.cell? ⟨b, o + k, none⟩ = some (.int .i64 (xs.getD k 0)) := Rd.atI h h0

set_option maxHeartbeats 8000000 in
theorem plainHits_I (w : World) (g : Nat) (rows : Int) (codec wd : Nat) (nulls : List Nat) (count : Nat) (list : List Int) (ends : List Nat) (base : Int) (lanes : List Nat) (op : Int) (lits : List Int) (lv : Value)
    (h : Ck_I w g rows codec wd nulls count list ends base lanes) (hcl : list.length = count) (hcn : count ≤ 65536) (hl : Lit_I w op lv lits) :
    Calls Tryz.prog 106 #[.pointer (some ⟨g, 0, none⟩), .agg #[.int .i64 op, lv]] w fun e w' => HitAns w w' e count (fun i => leafT op (lits.map pI) (pI (list.getD i 0))) := by
  obtain ⟨A, c, rfl, _, _, _⟩ := hl.rd.form
  have HL := hid hl
  have HC := hid h
  obtain ⟨nu, v5, ev, nv, bef, hr, h2, h3, h4, h5, h6⟩ := h.ex
  obtain ⟨A5, c5, rfl, _, _, _⟩ := h3.form
  rw [hcl] at hr h3
  have HROW := hid hr
  have HLS := hid h3
  have HCL := hid hcl
  clear h2 h3 h4 h5 h6 hr h hl hcl
  have HB0 := hid ((brefl w).alloc (Nat.le_refl _) (.cells #[.int .i64 op, .slice A lits.length c] 117))
  have HRT : Hid (Row (w.alloc (.cells #[.int .i64 op, .slice A lits.length c] 117)) w.heap.size 117 [.int .i64 op, .slice A lits.length c]) := hid (by unfold Row; rw [heap_alloc_new])
  have HSZ : Hid ((w.alloc (.cells #[.int .i64 op, .slice A lits.length c] 117)).heap.size = w.heap.size + 1) := hid (by simp)
  have HR0 := hid (HROW.out.mono HB0.out)
  have HLS0 := hid (HLS.out.mono HB0.out)
  have HL0 := hid (HL.out.mono HB0.out)
  have HST := hid (BitsTo.start count (fun i => leafT op (lits.map pI) (pI (list.getD i 0))))
  have HNB := hid (fun w2 => newBitmap_any count w2 (by omega))
  have HHO := hid (fun (w1 w2 : World) (v : Int) (h1 : Below w.heap.size w w1) (h : Below w1.heap.size w1 w2) => ((HL.out.mono h1).mono h).holds v)
  obtain ⟨T, hT⟩ : ∃ T : Int → Bool, ∀ v, leafT op (lits.map pI) (pI v) = T v := ⟨_, fun _ => rfl⟩
  simp only [hT] at HST HHO ⊢
  clear hT HL0 HL
  go_enter Tryz.func106, Tryz.ntmps106
  go_upto_region 1 with fail
  generalize w.alloc (.cells #[.int .i64 op, .slice A lits.length c] 117) = w0 at *
  have k4 : w0.cell? ⟨g, 0 + 4, none⟩ = some (.int .i64 count) := by rw [HR0.out.cell]; rfl
  have k5 : w0.cell? ⟨g, 0 + 5, none⟩ = some (.slice A5 count c5) := by rw [HR0.out.cell]; rfl
  go_upto_region 2 with (go_at_call 51; refine (HNB.out w0).mono ?_; rintro e w1 ⟨rfl, h1, h2, h3⟩; have HRW := hid h1; have HB1 := hid h2; have HZ1 := hid h3; clear h1 h2 h3)
  obtain ⟨q, hq⟩ : ∃ q, w0.heap.size = q := ⟨_, rfl⟩
  have HQ := hid hq
  rw [hq] at HRW HB1 HZ1 HSZ ⊢
  clear hq k4 k5
  obtain ⟨m, hm⟩ : ∃ m, (count + 63) / 64 = m := ⟨_, rfl⟩
  have HM := hid hm
  simp only [hm] at HRW HST ⊢
  clear hm HNB
  have HR1 := hid (HR0.out.below HB1.out (by rw [← HQ.out]; exact HR0.out.lt))
  have k5 : w1.cell? ⟨g, 0 + 5, none⟩ = some (.slice A5 count c5) := by rw [HR1.out.cell]; rfl
  go_wp2_with fail
  clear k5
  go_loopw [18] (fun i wr => ∃ j : Nat, j ≤ count ∧ i = .int .i64 j ∧ Hid (∃ zs, BitsTo count j (fun i => T (list.getD i 0)) zs ∧ Row wr q 40 (u64s zs)) ∧ Hid (Below q w0 wr) ∧ Hid (q < wr.heap.size)) (fun i _ => count - (intOf i).toNat)
  case atStart => exact ⟨0, by omega, rfl, hid ⟨_, HST.out, HRW.out⟩, HB1, hid (by rw [HZ1.out]; omega)⟩
  case round =>
    obtain ⟨j, hj, rfl, HR, HB, HZ⟩ := hrel
    by_cases hlt : j < count
    · obtain ⟨zs, hz1, hz2⟩ := HR.out
      have HZA := hid hz1
      have HZR := hid hz2
      clear hz1 hz2 HR
      obtain ⟨b, o, rfl, hcells⟩ := (HLS0.out.mono (by rw [HQ.out]; exact HB.out)).at_I (by omega)
      have l0 := hcells j (by rw [HCL.out]; exact hlt)
      clear hcells
      have HRTw := hid (HRT.out.below HB.out (by have := HSZ.out; omega))
      obtain ⟨y0, y1⟩ := cellP HRTw.out
      have HHw := hid (fun (v : Int) => HHO.out w0 wr v HB0.out (by rw [HQ.out]; exact HB.out))
      obtain ⟨x, hx⟩ : ∃ x, list.getD j 0 = x := ⟨_, rfl⟩
      rw [hx] at l0
      have HX := hid hx
      clear hx
      obtain ⟨tv, htv⟩ : ∃ tv, T x = tv := ⟨_, rfl⟩
      have HTV := hid htv
      have HHx := hid (HHw.out x)
      rw [htv] at HHx
      clear htv HHw
      cases tv
      · go_wp2_with (go_at_call 160; refine HHx.out.mono ?_; rintro e w5 ⟨rfl, hb5⟩; have HB5 := hid hb5; clear hb5 y0 y1 l0)
        go_roundw
        case rel =>
          refine ⟨j + 1, by omega, by go_num, hid ⟨zs, HZA.out.skip (by omega) (fun i h1 h2 => ?_), HZR.out.mono HB5.out⟩, hid (HB.out.trans (HB5.out.mono (Nat.le_of_lt HZ.out))), hid (Nat.lt_of_lt_of_le HZ.out HB5.out.size)⟩
          obtain rfl : i = j := by omega
          show T (list.getD i 0) = false
          rw [HX.out]; exact HTV.out
        case measure => simp [intOf]; omega
      · go_wp2_with (first
          | (go_at_call 160; refine HHx.out.mono ?_; rintro e w5 ⟨rfl, hb5⟩; have HB5 := hid hb5; clear hb5 y0 y1 l0; have HSR := hid (setRange1_any q m count j zs w5 (HZR.out.mono HB5.out) HZA.out.1 HM.out hlt hcn HZA.out.2.1))
          | (go_at_call 150; refine HSR.out.mono ?_; rintro e w6 ⟨rfl, hw6⟩; have HW6 := hid hw6; clear hw6))
        go_roundw
        case rel =>
          obtain ⟨zs', hz1, hz2, hz3, hz4, hz5, hz6⟩ := HW6.out
          have hb6 : Below q w0 w5 := HB.out.trans (HB5.out.mono (Nat.le_of_lt HZ.out))
          have hq5 : q < w5.heap.size := Nat.lt_of_lt_of_le HZ.out HB5.out.size
          refine ⟨j + 1, by omega, by go_num, hid ⟨zs', HZA.out.set (by rw [hz1]; exact HM.out.symm) hz2 hz3 (by omega) (fun i h1 h2 => ?_), hz4⟩, hid (hz5.below hb6 (Nat.le_of_lt hq5) (Nat.le_refl _) (Nat.le_refl _)), hid (by rw [hz6]; exact hq5)⟩
          obtain rfl : i = j := by omega
          show T (list.getD i 0) = true
          rw [HX.out]; exact HTV.out
        case measure => simp [intOf]; omega
    · obtain rfl : j = count := by omega
      obtain ⟨zs, hz1, hz2⟩ := HR.out
      have HZA := hid hz1
      have HZR := hid hz2
      clear hz1 hz2 HR
      go_wp2_with fail
      go_ret
      refine ⟨_, zs, rfl, HZA.out.full, ?_, HB0.out.trans (HB.out.mono (by rw [HSZ.out]; omega))⟩
      rw [HM.out]
      exact HZR.out.rd' (by simp [u64s]; rw [HZA.out.1]; exact HM.out) (by have := HM.out; unfold maxLen; omega)

set_option maxHeartbeats 8000000 in
theorem runHits_I (w : World) (g : Nat) (rows : Int) (codec wd : Nat) (nulls : List Nat) (count : Nat) (list : List Int) (ends : List Nat) (base : Int) (lanes : List Nat) (op : Int) (lits : List Int) (lv : Value)
    (h : Ck_I w g rows codec wd nulls count list ends base lanes) (hcl : list.length = ends.length) (hcn : count ≤ 65536) (hel : ends.length ≤ 65536) (hup : ∀ a b, a < b → b < ends.length → ends.getD a 0 < ends.getD b 0) (hlast : endB ends ends.length = count) (hl : Lit_I w op lv lits) :
    Calls Tryz.prog 107 #[.pointer (some ⟨g, 0, none⟩), .agg #[.int .i64 op, lv]] w fun e w' => HitAns w w' e count (fun i => leafT op (lits.map pI) (pI (list.getD (firstGe (nI ends) ((i : Int) + 1)) 0))) := by
  obtain ⟨A, c, rfl, _, _, _⟩ := hl.rd.form
  have HL := hid hl
  have HC := hid h
  obtain ⟨nu, v5, v6, nv, bef, hr, h2, h3, h4, h5, h6⟩ := h.ex
  obtain ⟨A5, c5, rfl, _, _, _⟩ := h3.form
  obtain ⟨A6, c6, rfl, _, _, _⟩ := h4.form
  obtain ⟨n, hn⟩ : ∃ n, ends.length = n := ⟨_, rfl⟩
  rw [hn] at hcl hel hlast
  rw [hcl, hn] at hr
  rw [hcl] at h3
  rw [hn] at h4
  have HUP := hid hup
  have HROW := hid hr
  have HLS := hid h3
  have HES := hid h4
  have HCL := hid hcl
  have HN := hid hn
  have HLAST := hid hlast
  clear h2 h3 h4 h5 h6 hr h hl hcl hn hlast hup
  have HB0 := hid ((brefl w).alloc (Nat.le_refl _) (.cells #[.int .i64 op, .slice A lits.length c] 117))
  have HRT : Hid (Row (w.alloc (.cells #[.int .i64 op, .slice A lits.length c] 117)) w.heap.size 117 [.int .i64 op, .slice A lits.length c]) := hid (by unfold Row; rw [heap_alloc_new])
  have HSZ : Hid ((w.alloc (.cells #[.int .i64 op, .slice A lits.length c] 117)).heap.size = w.heap.size + 1) := hid (by simp)
  have HR0 := hid (HROW.out.mono HB0.out)
  have HLS0 := hid (HLS.out.mono HB0.out)
  have HES0 := hid (HES.out.mono HB0.out)
  have HST := hid (BitsTo.start count (fun i => leafT op (lits.map pI) (pI (list.getD (firstGe (nI ends) ((i : Int) + 1)) 0))))
  have HNB := hid (fun w2 => newBitmap_any count w2 (by omega))
  have HHO := hid (fun (w1 w2 : World) (v : Int) (h1 : Below w.heap.size w w1) (h : Below w1.heap.size w1 w2) => ((HL.out.mono h1).mono h).holds v)
  obtain ⟨T, hT⟩ : ∃ T : Int → Bool, ∀ v, leafT op (lits.map pI) (pI v) = T v := ⟨_, fun _ => rfl⟩
  simp only [hT] at HST HHO ⊢
  clear hT HL
  go_enter Tryz.func107, Tryz.ntmps107
  go_upto_region 1 with fail
  generalize w.alloc (.cells #[.int .i64 op, .slice A lits.length c] 117) = w0 at *
  have k4 : w0.cell? ⟨g, 0 + 4, none⟩ = some (.int .i64 count) := by rw [HR0.out.cell]; rfl
  go_upto_region 2 with (go_at_call 51; refine (HNB.out w0).mono ?_; rintro e w1 ⟨rfl, h1, h2, h3⟩; have HRW := hid h1; have HB1 := hid h2; have HZ1 := hid h3; clear h1 h2 h3)
  obtain ⟨q, hq⟩ : ∃ q, w0.heap.size = q := ⟨_, rfl⟩
  have HQ := hid hq
  rw [hq] at HRW HB1 HZ1 HSZ ⊢
  clear hq k4
  obtain ⟨m, hm⟩ : ∃ m, (count + 63) / 64 = m := ⟨_, rfl⟩
  have HM := hid hm
  simp only [hm] at HRW HST ⊢
  clear hm HNB
  have HR1 := hid (HR0.out.below HB1.out (by rw [← HQ.out]; exact HR0.out.lt))
  have k6 : w1.cell? ⟨g, 0 + 6, none⟩ = some (.slice A6 n c6) := by rw [HR1.out.cell]; rfl
  go_wp2_with fail
  clear k6
  go_loopw [6, 19] (fun u i wr => ∃ t s : Nat, t ≤ n ∧ s = endB ends t ∧ s ≤ 65536 ∧ u = .int .i64 s ∧ i = .int .i64 t ∧ Hid (∃ zs, BitsTo count s (fun i => T (list.getD (firstGe (nI ends) ((i : Int) + 1)) 0)) zs ∧ Row wr q 40 (u64s zs)) ∧ Hid (Below q w0 wr) ∧ Hid (q < wr.heap.size)) (fun _ i _ => n - (intOf i).toNat)
  case atStart => exact ⟨0, 0, by omega, rfl, by omega, rfl, rfl, hid ⟨_, HST.out, HRW.out⟩, HB1, hid (by rw [HZ1.out]; omega)⟩
  case round =>
    obtain ⟨t, s, ht, hs, hs6, rfl, rfl, HR, HB, HZ⟩ := hrel
    have HS := hid hs
    clear hs
    by_cases hlt : t < n
    · obtain ⟨zs, hz1, hz2⟩ := HR.out
      have HZA := hid hz1
      have HZR := hid hz2
      clear hz1 hz2 HR
      have hbw : Below w0.heap.size w0 wr := by rw [HQ.out]; exact HB.out
      obtain ⟨b, o, rfl, hcells⟩ := (HLS0.out.mono hbw).at_I (by omega)
      have l0 := hcells t (by rw [HCL.out]; exact hlt)
      clear hcells
      obtain ⟨b2, o2, rfl, hcells⟩ := (HES0.out.mono hbw).atI (by omega)
      have l1 := hcells t (by rw [nI_length, HN.out]; exact hlt)
      rw [nI_get ends t (by rw [HN.out]; exact hlt)] at l1
      clear hcells
      have HRTw := hid (HRT.out.below HB.out (by have := HSZ.out; omega))
      have HRw := hid (HR0.out.mono hbw)
      have k5 : wr.cell? ⟨g, 0 + 5, none⟩ = some (.slice (some ⟨b, o, none⟩) n c5) := by rw [HRw.out.cell]; rfl
      obtain ⟨y0, y1⟩ := cellP HRTw.out
      have HHw := hid (fun (w2 : World) (v : Int) (h : Below wr.heap.size wr w2) => HHO.out w0 w2 v HB0.out (bthen hbw h))
      obtain ⟨x, hx⟩ : ∃ x, list.getD t 0 = x := ⟨_, rfl⟩
      rw [hx] at l0
      have HX := hid hx
      obtain ⟨en, hen⟩ : ∃ en, ends.getD t 0 = en := ⟨_, rfl⟩
      rw [hen] at l1
      have HEN := hid hen
      have hse : s ≤ en := by rw [HS.out, ← hen]; exact endB_le HUP.out (by rw [HN.out]; exact hlt)
      have hec : en ≤ count := by rw [← hen, ← HLAST.out]; exact end_le_last HUP.out (by rw [HN.out]; exact hlt) HN.out
      have HFG : Hid (∀ i : Nat, s ≤ i → i < en → firstGe (nI ends) ((i : Int) + 1) = t) := hid (fun i h1 h2 => firstGe_run HUP.out (by rw [HN.out]; exact hlt) (by rw [← HS.out]; exact h1) (by rw [hen]; exact h2))
      have HSn : Hid (en = endB ends (t + 1)) := hid (by rw [← hen]; unfold endB; rw [if_neg (by omega)]; rfl)
      clear hx hen hbw
      obtain ⟨tv, htv⟩ : ∃ tv, T x = tv := ⟨_, rfl⟩
      have HTV := hid htv
      have HHx := hid (fun (w2 : World) (h : Below wr.heap.size wr w2) => HHw.out w2 x h)
      rw [htv] at HHx
      clear htv HHw
      have HSRA := hid (fun (w5 : World) (hr : Row w5 q 40 (u64s zs)) => setRange_any q m m s en zs w5 hr (by rw [HZA.out.1]; exact HM.out) hse (by have := HM.out; omega) (by have := HM.out; omega) (Nat.le_refl _) HZA.out.2.1)
      have hgl : g < wr.heap.size := HRw.out.lt
      have hbl : b < wr.heap.size := World.block_lt_of_cell? wr _ l0
      have hpl : w.heap.size < wr.heap.size := HRTw.out.lt
      cases tv
      · go_upto_region 6 with fail
        go_region_held3 (fun w' => w'.cell? ⟨w.heap.size, 0, none⟩ = some (.int .i64 op) ∧ w'.cell? ⟨w.heap.size, 1, none⟩ = some (.slice A lits.length c) ∧ w'.cell? ⟨g, 0 + 5, none⟩ = some (.slice (some ⟨b, o, none⟩) n c5) ∧ w'.cell? ⟨b, o + t, none⟩ = some (.int .i64 x)) (go_keep)
          (first
            | (go_at_call 160; refine (HHx.out _ (bdrew (brefl wr) 1)).mono ?_; rintro e w5 ⟨rfl, hb5⟩; have HB5 := hid ((bdrew (brefl wr) 1).trans hb5); have m0 := (hb5.cell (p := ⟨w.heap.size, 0, none⟩) hpl).trans y0; have m1 := (hb5.cell (p := ⟨w.heap.size, 1, none⟩) hpl).trans y1; have m2 := (hb5.cell (p := ⟨g, 0 + 5, none⟩) hgl).trans k5; have m3 := (hb5.cell (p := ⟨b, o + t, none⟩) hbl).trans l0; clear hb5))
        go_wp2_with fail
        go_roundw
        case rel =>
          refine ⟨t + 1, en, by omega, HSn.out, by omega, rfl, by go_num, hid ⟨zs, HZA.out.skip hse (fun i h1 h2 => ?_), HZR.out.mono HB5.out⟩, hid (HB.out.trans (HB5.out.mono (Nat.le_of_lt HZ.out))), hid (Nat.lt_of_lt_of_le HZ.out HB5.out.size)⟩
          show T (list.getD (firstGe (nI ends) ((i : Int) + 1)) 0) = false
          rw [HFG.out i h1 h2, HX.out]; exact HTV.out
        case measure => simp [intOf]; omega
      · go_upto_region 6 with fail
        go_region_held3 (fun w' => w'.cell? ⟨w.heap.size, 0, none⟩ = some (.int .i64 op) ∧ w'.cell? ⟨w.heap.size, 1, none⟩ = some (.slice A lits.length c) ∧ w'.cell? ⟨g, 0 + 5, none⟩ = some (.slice (some ⟨b, o, none⟩) n c5) ∧ w'.cell? ⟨b, o + t, none⟩ = some (.int .i64 x)) (go_keep)
          (first
            | (go_at_call 160; refine (HHx.out _ (bdrew (brefl wr) 1)).mono ?_; rintro e w5 ⟨rfl, hb5⟩; have HB5 := hid ((bdrew (brefl wr) 1).trans hb5); have m0 := (hb5.cell (p := ⟨w.heap.size, 0, none⟩) hpl).trans y0; have m1 := (hb5.cell (p := ⟨w.heap.size, 1, none⟩) hpl).trans y1; have m2 := (hb5.cell (p := ⟨g, 0 + 5, none⟩) hgl).trans k5; have m3 := (hb5.cell (p := ⟨b, o + t, none⟩) hbl).trans l0; clear hb5))
        have HSRx := hid (HSRA.out w5 (HZR.out.mono HB5.out))
        go_wp2_with (go_at_call 150; refine HSRx.out.mono ?_; rintro e w6 ⟨rfl, hw6⟩; have HW6 := hid hw6; clear hw6)
        go_roundw
        case rel =>
          obtain ⟨zs', hz1, hz2, hz3, hz4, hz5, hz6⟩ := HW6.out
          have hb6 : Below q w0 w5 := HB.out.trans (HB5.out.mono (Nat.le_of_lt HZ.out))
          have hq5 : q < w5.heap.size := Nat.lt_of_lt_of_le HZ.out HB5.out.size
          refine ⟨t + 1, en, by omega, HSn.out, by omega, rfl, by go_num, hid ⟨zs', HZA.out.set (by rw [hz1]; exact HM.out.symm) hz2 hz3 hse (fun i h1 h2 => ?_), hz4⟩, hid (hz5.below hb6 (Nat.le_of_lt hq5) (Nat.le_refl _) (Nat.le_refl _)), hid (by rw [hz6]; exact hq5)⟩
          show T (list.getD (firstGe (nI ends) ((i : Int) + 1)) 0) = true
          rw [HFG.out i h1 h2, HX.out]; exact HTV.out
        case measure => simp [intOf]; omega
    · obtain rfl : t = n := by omega
      obtain ⟨zs, hz1, hz2⟩ := HR.out
      have HZA := hid hz1
      have HZR := hid hz2
      have hsc : s = count := by rw [HS.out, HLAST.out]
      clear hz1 hz2 HR
      go_wp2_with fail
      go_ret
      refine ⟨_, zs, rfl, ?_, ?_, HB0.out.trans (HB.out.mono (by rw [HSZ.out]; omega))⟩
      · have h1 := HZA.out
        rw [hsc] at h1; exact h1
      rw [HM.out]
      exact HZR.out.rd' (by simp [u64s]; rw [HZA.out.1]; exact HM.out) (by have := HM.out; unfold maxLen; omega)
end Go.Proofs.YthonbfojpbfmgaaGreatDoor
