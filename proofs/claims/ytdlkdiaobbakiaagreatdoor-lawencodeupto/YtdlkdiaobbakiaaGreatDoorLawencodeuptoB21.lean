/- Mathematics of the round trip: the head, the cells, the whole body. -/
import Derived.Test.YtdlkdiaobbakiaaGreatDoorLawencodeuptoB20
import Derived.Test.YtdlkdiaobbakiaaGreatDoorLawencodeuptoB13
import Derived.Ground.SlgnProg
import Derived.Shelf.SlicesG.Turned
import Derived.Shelf.SlicesG.Clone
import Derived.Shelf.SlicesG.CompactI
import Derived.Shelf.SlicesG.CompactS
import Derived.Ground.SlgmProg
import Derived.Shelf.SortM.Plain
import Derived.Shelf.SortM.SortNone
import Derived.Test.YtdlkdiaobbakiaaGreatDoorProg
import Derived.Test.YtdlkdiaobbakiaaGreatDoorLawencodeuptoB19
import Derived.Lib.OwnBridge
import Derived.Sort.OwnSortedInts
set_option linter.unusedVariables false
set_option linter.unusedSimpArgs false
set_option linter.unnecessarySimpa false
set_option maxRecDepth 100000
namespace Go.Proofs.YtdlkdiaobbakiaaGreatDoor
open Go.RowKit

theorem getD_mem3 {cs : List C3} {i : Nat} (h : i < cs.length) : cs.getD i C3.df ∈ cs := by
  have : cs.getD i C3.df = cs[i] := by simp [List.getD, List.getElem?_eq_getElem h]
  rw [this]; exact List.getElem_mem h
theorem rN_words (n : Nat) : L.nWords 1 n = rN n := by
  rw [L.nWords_pos (by decide)]; unfold rN; rfl
theorem head_at {xs pay : List Nat} {a b : Nat} {cs : List C3} (hl : cs.length ≤ 65536) (h : xs = ([a, b] ++ le8 (bmL (cs.map C3.n))) ++ pay) :
    rWs cs.length xs = bmL (cs.map C3.n) ∧ rHd cs.length xs = true ∧ xs.getD 0 0 = a ∧ xs.getD 1 0 = b ∧ xs.drop (2 + 8 * rN cs.length) = pay ∧ 2 + 8 * rN cs.length ≤ xs.length := by
  have hb := bmL_isBm (cs.map C3.n)
  have hm : (bmL (cs.map C3.n)).length = rN cs.length := by rw [hb.1, List.length_map, rN_words]
  have hd : xs.drop 2 = le8 (bmL (cs.map C3.n)) ++ pay := by rw [h]; rfl
  have hx : xs.length = 2 + 8 * rN cs.length + pay.length := by
    rw [h, List.length_append, List.length_append, le8_len, hm]; rfl
  have hn := nums_at (by decide) (by omega) hd (fun x hx => by rw [p64]; exact hb.2.1 x hx)
  rw [hm] at hn
  have hw : rWs cs.length xs = bmL (cs.map C3.n) := hn.2
  refine ⟨hw, ?_, by rw [h]; rfl, by rw [h]; rfl, ?_, by omega⟩
  · unfold rHd
    rw [hn.1, hw, Bool.true_and]
    have hp := L.pack_isPack (w := 1) (by omega) ((cs.map C3.n).map Bool.toNat) (toNat_lt _)
    rw [List.length_map, List.length_map] at hp
    exact (okPack_nat (wd := 1) (n := cs.length) _ (by decide) hl).2 hp
  · exact drop_app hd (by rw [le8_len, hm])
theorem bit_at (cs : List C3) (i : Nat) (h : i < cs.length) : bitOf (bmL (cs.map C3.n)) i = (cs.getD i C3.df).n := by
  have hb := bmL_isBm (cs.map C3.n)
  have h1 := hb.1
  rw [List.length_map, rN_words] at h1
  have h2 := hb.2.2 i (by rw [h1]; unfold rN; omega)
  rw [h2, List.length_map, decide_eq_true h, Bool.true_and]
  simp [List.getD, List.getElem?_eq_getElem h]
theorem rank_vals (cs : List C3) : ∀ t, t ≤ cs.length → rankN (bmL (cs.map C3.n)) t + (valsOf (cs.take t)).length = t := by
  intro t
  induction t with
  | zero => intro _; simp [rankN, valsOf]
  | succ t ih =>
    intro h
    have h1 := ih (by omega)
    rw [rankN_succ, bit_at cs t (by omega), take_snoc cs C3.df t (by omega), valsOf_snoc, List.length_append]
    cases (cs.getD t C3.df).n <;> simp <;> omega
theorem valsOf_app (a b : List C3) : valsOf (a ++ b) = valsOf a ++ valsOf b := by simp [valsOf]
theorem valsOf_cons (c : C3) (r : List C3) : valsOf (c :: r) = (if c.n = true then [] else [(c.i, c.s)]) ++ valsOf r := by
  have := valsOf_app [c] r
  rw [List.singleton_append] at this
  rw [this]
  congr 1
  unfold valsOf
  cases h : c.n <;> simp [h]
theorem val_at (cs : List C3) (r : Nat) (h : r < cs.length) (hn : (cs.getD r C3.df).n = false) : (valsOf cs).getD (r - rankN (bmL (cs.map C3.n)) r) dfP = ((cs.getD r C3.df).i, (cs.getD r C3.df).s) := by
  have h1 := rank_vals cs r (by omega)
  have e : cs = cs.take r ++ (cs.getD r C3.df :: cs.drop (r + 1)) := by
    simp only [List.getD, List.getElem?_eq_getElem h, Option.getD_some]
    rw [← List.drop_eq_getElem_cons h, List.take_append_drop]
  have h2 : valsOf cs = valsOf (cs.take r) ++ (((cs.getD r C3.df).i, (cs.getD r C3.df).s) :: valsOf (cs.drop (r + 1))) := by
    conv => lhs; rw [e]
    rw [valsOf_app, valsOf_cons, hn]; rfl
  rw [h2]
  have h3 : r - rankN (bmL (cs.map C3.n)) r = (valsOf (cs.take r)).length := by omega
  rw [h3]
  simp [List.getD]
/-- a NULL has nothing in its other fields -/
def nullOk (c : C3) : Prop := c.n = true → c.i = 0 ∧ c.s = ByteArray.empty
theorem ofK_null {k : Int} {c : C3} (h : ofK k c = true) : nullOk c := by
  intro hn
  unfold ofK at h
  rw [if_pos hn] at h
  simp only [Bool.and_eq_true, decide_eq_true_eq, List.isEmpty_iff] at h
  refine ⟨h.2.1, ?_⟩
  have h1 := h.2.2
  rw [ByteArray.toList_eq] at h1
  obtain ⟨n, i, ⟨s⟩⟩ := c
  simp only at h1 ⊢
  rw [show s = #[] from Array.toList_inj.1 h1]; rfl
theorem cell_at (cs : List C3) (r : Nat) (h : r < cs.length) (hz : nullOk (cs.getD r C3.df)) :
    cA (bmL (cs.map C3.n)) r = (cs.getD r C3.df).n ∧ cB (bmL (cs.map C3.n)) (valsOf cs) r = (cs.getD r C3.df).i ∧ cC (bmL (cs.map C3.n)) (valsOf cs) r = (cs.getD r C3.df).s := by
  have hb := bit_at cs r h
  unfold cA cB cC
  rw [hb]
  cases hn : (cs.getD r C3.df).n with
  | true => obtain ⟨h1, h2⟩ := hz hn; exact ⟨rfl, by rw [if_pos rfl, h1], by rw [if_pos rfl, h2]⟩
  | false => rw [val_at cs r h hn]; simp
theorem cellsUp_eq (A : Nat → Bool) (B : Nat → Int) (C : Nat → ByteArray) (ds : List C3) : ∀ t, t ≤ ds.length → (∀ i, i < t → A i = (ds.getD i C3.df).n ∧ B i = (ds.getD i C3.df).i ∧ C i = (ds.getD i C3.df).s) → cellsUp A B C t = cells3 (ds.take t) := by
  intro t
  induction t with
  | zero => intro _ _; rfl
  | succ t ih =>
    intro h1 h2
    rw [cellsUp, ih (by omega) (fun i hi => h2 i (by omega)), take_snoc ds C3.df t (by omega), cells3_snoc]
    obtain ⟨e1, e2, e3⟩ := h2 t (by omega)
    rw [e1, e2, e3]
theorem vals_ok {kd : Nat} {cs : List C3} (hkd : kd = 1 ∨ kd = 2) (hall : cs.all (ofK kd) = true) (hI : ∀ x ∈ cs, okI x.i) : ∀ v ∈ valsOf cs, okV kd v := by
  intro v hv
  unfold valsOf at hv
  obtain ⟨c, hc, rfl⟩ := List.mem_map.1 hv
  obtain ⟨h1, h2⟩ := List.mem_filter.1 hc
  have h3 := List.all_eq_true.1 hall c h1
  unfold ofK at h3
  rw [if_neg (by simpa using h2)] at h3
  unfold okV
  rcases hkd with rfl | rfl
  · rw [if_pos (by rfl), List.isEmpty_iff] at h3
    rw [if_pos rfl]
    refine ⟨hI c h1, ?_⟩
    rw [ByteArray.toList_eq] at h3
    obtain ⟨n, i, ⟨s⟩⟩ := c
    simp only at h3 ⊢
    rw [show s = #[] from Array.toList_inj.1 h3]; rfl
  · rw [if_neg (by decide)] at h3
    rw [if_neg (by decide)]
    simp only [decide_eq_true_eq] at h3
    exact ⟨h3.2.1, h3.2.2⟩
/-- what was encoded stands for the cells -/
theorem body_back {k c wd : Int} {cs : List C3} (hok : encCode k c wd cs = 0) (hI : ∀ x ∈ cs, okI x.i) (hs : sumT (valsOf cs) < 4294967296) :
    isKind k = true ∧ isRows cs.length = true ∧ rOk k.toNat cs.length (encB k c wd cs) = true ∧ rWs cs.length (encB k c wd cs) = bmL (cs.map C3.n) ∧ (rPay k.toNat cs.length (encB k c wd cs)).2 = valsOf cs ∧ cs.all (ofK k) = true := by
  unfold encCode at hok
  split at hok
  · omega
  · rename_i hbad
    split at hok
    · rename_i hp
      unfold encBad at hbad
      simp only [Bool.or_eq_true, Bool.not_eq_true', decide_eq_true_eq, not_or, Bool.not_eq_false] at hbad
      obtain ⟨⟨hc, hl⟩, hall⟩ := hbad
      obtain ⟨pw, hpw, hp64⟩ := payW_nat k c wd (valsOf cs) hc
      obtain ⟨kd, cn, rfl, rfl, hkd, hc1, hc5⟩ := isCodec_nat k c wd hc
      simp only [Int.toNat_natCast] at hp hpw ⊢
      have hB : encB kd cn wd cs = ([cn, pw] ++ le8 (bmL (cs.map C3.n))) ++ payB kd cn wd (valsOf cs) := by
        unfold encB; simp only [Int.toNat_natCast]; rw [hpw, Int.toNat_natCast]
      obtain ⟨h1, h2, h3, h4, h5, h6⟩ := head_at (by omega) hB
      generalize encB kd cn wd cs = xs at *
      have hk : rK cs.length xs = (valsOf cs).length := by
        unfold rK
        rw [h1]
        have := rank_vals cs cs.length (Nat.le_refl _)
        rw [List.take_length] at this; omega
      have hpay : rPay kd cs.length xs = (true, valsOf cs) := by
        unfold rPay
        rw [h3, h4, hk]
        exact pay_at hkd hc hpw h6 h5 hp (vals_ok hkd hall hI) hs (by have := valsOf_len cs; omega)
      refine ⟨?_, ?_, ?_, h1, by rw [hpay], hall⟩
      · unfold isKind; exact decide_eq_true (by omega)
      · unfold isRows; exact decide_eq_true (by omega)
      · unfold rOk
        rw [h2, hpay, hk]; simp
    · omega
theorem decode_back {k c wd : Int} {cs : List C3} (hok : encCode k c wd cs = 0) (hI : ∀ x ∈ cs, okI x.i) (hs : sumT (valsOf cs) < 4294967296) :
    refCode k cs.length (encB k c wd cs) = 0 ∧ refLen k cs.length (encB k c wd cs) = cs.length ∧ refCells k cs.length (encB k c wd cs) = cells3 cs := by
  obtain ⟨h1, h2, h3, h4, h5, h6⟩ := body_back hok hI hs
  have h0 : refCode k cs.length (encB k c wd cs) = 0 := by
    unfold refCode
    rw [h1, h2, Int.toNat_natCast, h3]; rfl
  refine ⟨h0, ?_, ?_⟩
  · unfold refLen; rw [if_pos h0, Int.toNat_natCast]
  · unfold refCells
    rw [if_pos h0, Int.toNat_natCast]
    unfold rCells
    rw [h4, h5]
    have := cellsUp_eq (cA (bmL (cs.map C3.n))) (cB (bmL (cs.map C3.n)) (valsOf cs)) (cC (bmL (cs.map C3.n)) (valsOf cs)) cs cs.length (Nat.le_refl _) (fun i hi => cell_at cs i hi (ofK_null (List.all_eq_true.1 h6 _ (getD_mem3 hi))))
    rwa [List.take_length] at this
/-- the cells at the listed places -/
def pick3 (cs : List C3) (ps : List Int) : List C3 := ps.map fun p => cs.getD p.toNat C3.df
theorem gather_back {k c wd : Int} {cs : List C3} {ps : List Int} (hok : encCode k c wd cs = 0) (hI : ∀ x ∈ cs, okI x.i) (hs : sumT (valsOf cs) < 4294967296) (hps : ∀ p ∈ ps, 0 ≤ p ∧ p < (cs.length : Int)) (hpl : ps.length ≤ 65536) :
    rgCode k cs.length (encB k c wd cs) ps = 0 ∧ rgLen k cs.length (encB k c wd cs) ps = ps.length ∧ rgCells k cs.length (encB k c wd cs) ps = cells3 (pick3 cs ps) := by
  obtain ⟨h1, h2, h3, h4, h5, h6⟩ := body_back hok hI hs
  have hpp : arePl ps cs.length = true := by
    unfold arePl
    rw [decide_eq_true hpl, Bool.true_and, List.all_eq_true]
    intro p hp
    exact decide_eq_true (hps p hp)
  have h0 : rgCode k cs.length (encB k c wd cs) ps = 0 := by
    unfold rgCode
    rw [h1, h2, hpp, Int.toNat_natCast, h3]; rfl
  refine ⟨h0, ?_, ?_⟩
  · unfold rgLen; rw [if_pos h0]
  · unfold rgCells
    rw [if_pos h0, Int.toNat_natCast]
    unfold rG
    rw [h4, h5]
    have hl : (pick3 cs ps).length = ps.length := by unfold pick3; rw [List.length_map]
    have := cellsUp_eq (fun i => cA (bmL (cs.map C3.n)) (ps.getD i 0).toNat) (fun i => cB (bmL (cs.map C3.n)) (valsOf cs) (ps.getD i 0).toNat) (fun i => cC (bmL (cs.map C3.n)) (valsOf cs) (ps.getD i 0).toNat) (pick3 cs ps) ps.length (by omega) (fun i hi => by
      have hp := hps (ps.getD i 0) (by simp [List.getD, List.getElem?_eq_getElem hi])
      have e : (pick3 cs ps).getD i C3.df = cs.getD (ps.getD i 0).toNat C3.df := by
        unfold pick3
        simp [List.getD, List.getElem?_eq_getElem hi]
      rw [e]
      have hlt : (ps.getD i 0).toNat < cs.length := by omega
      exact cell_at cs _ hlt (ofK_null (List.all_eq_true.1 h6 _ (getD_mem3 hlt))))
    rw [this, ← hl, List.take_length]
theorem leN_mem {k n x : Nat} (h : x ∈ leN k n) : x < 256 := leN_lt k n x h
theorem flat_mem {k : Nat} {ns : List Nat} : ∀ x ∈ ns.flatMap (leN k), x < 256 := by
  intro x hx
  obtain ⟨n, _, h⟩ := List.mem_flatMap.1 hx
  exact leN_mem h
theorem listB_lt (kd : Nat) (vs : List PV) : ∀ x ∈ listB kd vs, x < 256 := by
  intro x hx
  unfold listB at hx
  rcases List.mem_append.1 hx with h | h
  · unfold headB at h
    split at h
    · exact flat_mem x h
    · exact flat_mem x h
  · unfold textB at h
    obtain ⟨s, _, h⟩ := List.mem_flatMap.1 h
    exact sbs_lt s x h
theorem payB_lt (kd cn : Nat) (wd : Int) (vs : List PV) : ∀ x ∈ payB kd cn wd vs, x < 256 := by
  intro x hx
  unfold payB at hx
  split at hx
  · unfold dictB at hx
    rcases List.mem_append.1 hx with h | h
    · rcases List.mem_append.1 h with h | h
      · exact leN_mem h
      · exact listB_lt _ _ x h
    · exact flat_mem x h
  · split at hx
    · unfold runsB at hx
      rcases List.mem_append.1 hx with h | h
      · rcases List.mem_append.1 h with h | h
        · exact leN_mem h
        · exact flat_mem x h
      · exact listB_lt _ _ x h
    · split at hx
      · unfold frameB at hx
        rcases List.mem_append.1 hx with h | h
        · exact leN_mem h
        · exact flat_mem x h
      · split at hx
        · exact flat_mem x hx
        · exact listB_lt _ _ x hx
theorem listB_len2 (kd : Nat) (vs : List PV) : (listB kd vs).length ≤ 8 * vs.length + sumT vs := by
  unfold listB
  rw [List.length_append, textB_len]
  have := headB_len kd vs
  unfold sumT; omega
theorem packR_len2 (wd : Int) (xs : List Nat) : (packR wd xs).length ≤ xs.length := by
  unfold packR
  split
  · rename_i h
    obtain ⟨h1, h2⟩ := (okVals_iff wd xs).1 h
    rw [L.packL_length]
    exact L.nWords_le (by omega)
  · simp
theorem payB_len2 (kd cn : Nat) (wd : Int) (vs : List PV) : (payB kd cn wd vs).length ≤ 2064 + 12 * vs.length + sumT vs := by
  unfold payB
  split
  · unfold dictB
    have h1 := listB_len2 kd (diffP vs)
    have h2 := packR_len2 (needN (diffP vs).length : Nat) (lanesD vs)
    have h3 := diffP_len vs
    have h4 := diffP_sum vs
    have h5 : (lanesD vs).length = vs.length := by unfold lanesD; rw [List.length_map]
    rw [List.length_append, List.length_append, leN_length, le8_len]; omega
  · split
    · unfold runsB
      have h1 := listB_len2 kd (runHeads vs vs.length)
      have h2 := runHeads_len vs vs.length
      have h3 := runEndsL_len vs vs.length
      have h4 := runHeads_sum vs
      rw [List.length_append, List.length_append, leN_length, le4N_len]; omega
    · split
      · unfold frameB
        have h2 := packR_len2 wd (lanesF (toU (minP vs).1) vs)
        have h5 : (lanesF (toU (minP vs).1) vs).length = vs.length := by unfold lanesF; rw [List.length_map]
        rw [List.length_append, leN_length, le8_len]; omega
      · split
        · unfold packedB
          have h2 := packR_len2 wd (lanesK vs)
          have h5 : (lanesK vs).length = vs.length := by unfold lanesK; rw [List.length_map]
          rw [le8_len]; omega
        · have := listB_len2 kd vs; omega
/-- the body is a list of bytes, and not too long -/
theorem encB_bytes {k c wd : Int} {cs : List C3} (hok : encCode k c wd cs = 0) (hs : sumT (valsOf cs) ≤ 1048576) : (∀ x ∈ encB k c wd cs, x < 256) ∧ (encB k c wd cs).length ≤ 16777216 := by
  unfold encCode at hok
  split at hok
  · omega
  · rename_i hbad
    unfold encBad at hbad
    simp only [Bool.or_eq_true, Bool.not_eq_true', decide_eq_true_eq, not_or, Bool.not_eq_false] at hbad
    obtain ⟨⟨hc, hl⟩, hall⟩ := hbad
    obtain ⟨pw, hpw, hp64⟩ := payW_nat k c wd (valsOf cs) hc
    obtain ⟨kd, cn, rfl, rfl, hkd, hc1, hc5⟩ := isCodec_nat k c wd hc
    unfold encB
    simp only [Int.toNat_natCast] at hpw ⊢
    rw [hpw, Int.toNat_natCast]
    constructor
    · intro x hx
      rcases List.mem_append.1 hx with h | h
      · rcases List.mem_append.1 h with h | h
        · simp only [List.mem_cons, List.not_mem_nil, or_false] at h; omega
        · exact flat_mem x h
      · exact payB_lt _ _ _ _ x h
    · have h1 := payB_len2 kd cn wd (valsOf cs)
      have h2 := valsOf_len cs
      have h3 := bmL_len (cs.map C3.n)
      rw [List.length_map, rN_words] at h3
      unfold rN at h3
      rw [List.length_append, List.length_append, le8_len, h3]
      simp only [List.length_cons, List.length_nil]
      omega
end Go.Proofs.YtdlkdiaobbakiaaGreatDoor

/- The library's contracts, laid at this program. -/
set_option maxRecDepth 512
namespace Go.Proofs
open Go.Shelf
def Tryz.laysSlN39_f121_ren : Go.Shelf.Ren := ⟨fun | 39 => 121 | n => n, fun | 22 => 80 | 23 => 2 | 3 => 3 | 4 => 4 | 9 => 9 | 20 => 20 | 0 => 0 | n => n, fun | n => n⟩
theorem Tryz.laysSlN39_f121 : Go.Proofs.SlLaysN.n39 Tryz.prog Tryz.laysSlN39_f121_ren := {
  mixed := by kernel_rfl
  f39 := ⟨Tryz.f121.name, by decide, Tryz.func121.trans (congrArg some (by kernel_rfl))⟩
  t0 := Tryz.underlying0
  a0 := Tryz.isAgg0
  z0 := Tryz.sizeOf0
  v0 := Tryz.zeroValue0
  t3 := Tryz.underlying3
  a3 := Tryz.isAgg3
  z3 := Tryz.sizeOf3
  v3 := Tryz.zeroValue3
  t4 := Tryz.underlying4
  a4 := Tryz.isAgg4
  z4 := Tryz.sizeOf4
  v4 := Tryz.zeroValue4
  t9 := Tryz.underlying9
  a9 := Tryz.isAgg9
  z9 := Tryz.sizeOf9
  v9 := Tryz.zeroValue9
  t20 := Tryz.underlying20
  a20 := Tryz.isAgg20
  z20 := Tryz.sizeOf20
  v20 := Tryz.zeroValue20
  t22 := Tryz.underlying80
  a22 := Tryz.isAgg80
  z22 := Tryz.sizeOf80
  v22 := Tryz.zeroValue80
  t23 := Tryz.underlying2
  a23 := Tryz.isAgg2
  z23 := Tryz.sizeOf2
  v23 := Tryz.zeroValue2 }
open Go.Lib in
theorem Tryz.slices_Min_int (b off n c : Nat) (zs : List Int) (w : World) (hn : 0 < n) (hz : n ≤ zs.length) (hbig : n ≤ 9223372036854775807) (hc : ∀ j, j < zs.length → w.cell? ⟨b, off + j, none⟩ = some (.int .i64 (zs.getD j 0))) :
    Calls Tryz.prog 121 #[.slice (some ⟨b, off, none⟩) n c] w fun e w' => e = .returned (.int .i64 (Lib.minOf (zs.take n))) ∧ w' = w := AnyG.slices_Min_int Tryz.laysSlN39_f121 b off n c zs w hn hz hbig hc
def Tryz.laysSlN41_f124_ren : Go.Shelf.Ren := ⟨fun | 41 => 124 | n => n, fun | 22 => 80 | 23 => 2 | 4 => 4 | n => n, fun | n => n⟩
theorem Tryz.laysSlN41_f124 : Go.Proofs.SlLaysN.n41 Tryz.prog Tryz.laysSlN41_f124_ren := {
  mixed := by kernel_rfl
  f41 := ⟨Tryz.f124.name, by decide, Tryz.func124.trans (congrArg some (by kernel_rfl))⟩
  t4 := Tryz.underlying4
  a4 := Tryz.isAgg4
  z4 := Tryz.sizeOf4
  v4 := Tryz.zeroValue4
  t22 := Tryz.underlying80
  a22 := Tryz.isAgg80
  z22 := Tryz.sizeOf80
  v22 := Tryz.zeroValue80
  t23 := Tryz.underlying2
  a23 := Tryz.isAgg2
  z23 := Tryz.sizeOf2
  v23 := Tryz.zeroValue2
  i23 := by kernel_rfl }
open Go.RowKit Go.Lib in
theorem Tryz.slices_Clone_int (b off n c : Nat) (zs : List Int) (w : World) (hz : n ≤ zs.length) (hbig : n * 8 ≤ 140737488355328) (hc : ∀ j, j < zs.length → w.cell? ⟨b, off + j, none⟩ = some (.int .i64 (zs.getD j 0))) :
    Calls Tryz.prog 124 #[.slice (some ⟨b, off, none⟩) n c] w fun e w' => ∃ v', e = .returned v' ∧ w'.ownsRow w.heap.size 2 1 v' n ((zs.take n).map (Value.int .i64)) ∧ v' ≠ .slice none 0 0 ∧ Below w.heap.size w w' := AnyG.slices_Clone_int Tryz.laysSlN41_f124 b off n c zs w hz hbig hc
open Go.RowKit Go.Lib in
theorem Tryz.slices_Clone_int_nil (n c : Nat) (w : World) :
    Calls Tryz.prog 124 #[.slice none n c] w fun e w' => e = .returned (.slice none 0 0) ∧ w' = w := AnyG.slices_Clone_int_nil Tryz.laysSlN41_f124 n c w
def Tryz.laysSlN42_f113_ren : Go.Shelf.Ren := ⟨fun | 42 => 113 | n => n, fun | 25 => 72 | 26 => 9 | 4 => 4 | n => n, fun | n => n⟩
theorem Tryz.laysSlN42_f113 : Go.Proofs.SlLaysN.n42 Tryz.prog Tryz.laysSlN42_f113_ren := {
  mixed := by kernel_rfl
  f42 := ⟨Tryz.f113.name, by decide, Tryz.func113.trans (congrArg some (by kernel_rfl))⟩
  t4 := Tryz.underlying4
  a4 := Tryz.isAgg4
  z4 := Tryz.sizeOf4
  v4 := Tryz.zeroValue4
  t25 := Tryz.underlying72
  a25 := Tryz.isAgg72
  z25 := Tryz.sizeOf72
  v25 := Tryz.zeroValue72
  t26 := Tryz.underlying9
  a26 := Tryz.isAgg9
  z26 := Tryz.sizeOf9
  v26 := Tryz.zeroValue9
  i26 := by kernel_rfl }
open Go.RowKit Go.Lib in
theorem Tryz.slices_Clone_string (b off n c : Nat) (zs : List ByteArray) (w : World) (hz : n ≤ zs.length) (hbig : n * 16 ≤ 140737488355328) (hc : ∀ j, j < zs.length → w.cell? ⟨b, off + j, none⟩ = some (.string (zs.getD j ByteArray.empty))) :
    Calls Tryz.prog 113 #[.slice (some ⟨b, off, none⟩) n c] w fun e w' => ∃ v', e = .returned v' ∧ w'.ownsRow w.heap.size 9 1 v' n ((zs.take n).map (Value.string)) ∧ v' ≠ .slice none 0 0 ∧ Below w.heap.size w w' := AnyG.slices_Clone_string Tryz.laysSlN42_f113 b off n c zs w hz hbig hc
open Go.RowKit Go.Lib in
theorem Tryz.slices_Clone_string_nil (n c : Nat) (w : World) :
    Calls Tryz.prog 113 #[.slice none n c] w fun e w' => e = .returned (.slice none 0 0) ∧ w' = w := AnyG.slices_Clone_string_nil Tryz.laysSlN42_f113 n c w
open Go.RowKit Go.Lib in
theorem Tryz.slices_Clone_int_zero (a : Addr) (c : Nat) (w : World) :
    Calls Tryz.prog 124 #[.slice (some a) 0 c] w fun e w' => ∃ v', e = .returned v' ∧ w'.ownsRow w.heap.size 2 1 v' 0 [] ∧ v' ≠ .slice none 0 0 ∧ Below w.heap.size w w' := AnyG.slices_Clone_int_zero Tryz.laysSlN41_f124 a c w
open Go.RowKit Go.Lib in
theorem Tryz.slices_Clone_string_zero (a : Addr) (c : Nat) (w : World) :
    Calls Tryz.prog 113 #[.slice (some a) 0 c] w fun e w' => ∃ v', e = .returned v' ∧ w'.ownsRow w.heap.size 9 1 v' 0 [] ∧ v' ≠ .slice none 0 0 ∧ Below w.heap.size w w' := AnyG.slices_Clone_string_zero Tryz.laysSlN42_f113 a c w
def Tryz.laysSlN43_f126_ren : Go.Shelf.Ren := ⟨fun | 43 => 126 | n => n, fun | 22 => 80 | 23 => 2 | 3 => 3 | 4 => 4 | 0 => 0 | n => n, fun | n => n⟩
theorem Tryz.laysSlN43_f126 : Go.Proofs.SlLaysN.n43 Tryz.prog Tryz.laysSlN43_f126_ren := {
  mixed := by kernel_rfl
  f43 := ⟨Tryz.f126.name, by decide, Tryz.func126.trans (congrArg some (by kernel_rfl))⟩
  t0 := Tryz.underlying0
  a0 := Tryz.isAgg0
  z0 := Tryz.sizeOf0
  v0 := Tryz.zeroValue0
  t3 := Tryz.underlying3
  a3 := Tryz.isAgg3
  z3 := Tryz.sizeOf3
  v3 := Tryz.zeroValue3
  t4 := Tryz.underlying4
  a4 := Tryz.isAgg4
  z4 := Tryz.sizeOf4
  v4 := Tryz.zeroValue4
  t22 := Tryz.underlying80
  a22 := Tryz.isAgg80
  z22 := Tryz.sizeOf80
  v22 := Tryz.zeroValue80
  t23 := Tryz.underlying2
  a23 := Tryz.isAgg2
  z23 := Tryz.sizeOf2
  v23 := Tryz.zeroValue2
  i23 := by kernel_rfl }
open Go.RowKit Go.Lib Go.Sort in
theorem Tryz.slices_Compact_int_arr (blk off cap : Nat) (d : Array Int) (w : World) (hH : Holds encI w blk off d) (hsz : d.size ≤ 9223372036854775807) (hcap : d.size ≤ cap) :
    Calls Tryz.prog 126 #[.slice (some ⟨blk, off, none⟩) d.size cap] w fun e w' => e = .returned (.slice (some ⟨blk, off, none⟩) (compactUpTo d d.size).length cap) ∧ ∃ q, w' = putRow encI (Sort.ahead w q) blk off (compactUpTo d d.size ++ List.replicate (d.size - (compactUpTo d d.size).length) 0).toArray := AnyG.slices_Compact_int_arr Tryz.laysSlN43_f126 blk off cap d w hH hsz hcap
open Go.RowKit Go.Lib Go.Sort in
theorem Tryz.slices_Compact_int (blk off cap : Nat) (zs : List Int) (w : World) (hH : Holds (Value.int .i64) w blk off zs.toArray) (hsz : zs.length ≤ 9223372036854775807) (hcap : zs.length ≤ cap) :
    Calls Tryz.prog 126 #[.slice (some ⟨blk, off, none⟩) zs.length cap] w fun e w' => e = .returned (.slice (some ⟨blk, off, none⟩) (Lib.compact zs).length cap) ∧ ∃ q, w' = putRow (Value.int .i64) (Sort.ahead w q) blk off (Lib.compact zs ++ List.replicate (zs.length - (Lib.compact zs).length) 0).toArray := AnyG.slices_Compact_int Tryz.laysSlN43_f126 blk off cap zs w hH hsz hcap
open Go.RowKit Go.Lib Go.Sort in
theorem Tryz.slices_Compact_int_empty (a : Option Addr) (cap : Nat) (w : World) :
    Calls Tryz.prog 126 #[.slice a 0 cap] w fun e w' => e = .returned (.slice a 0 cap) ∧ w' = w := AnyG.slices_Compact_int_empty Tryz.laysSlN43_f126 a cap w
def Tryz.laysSlN44_f115_ren : Go.Shelf.Ren := ⟨fun | 44 => 115 | n => n, fun | 25 => 72 | 26 => 9 | 3 => 3 | 4 => 4 | 0 => 0 | n => n, fun | n => n⟩
theorem Tryz.laysSlN44_f115 : Go.Proofs.SlLaysN.n44 Tryz.prog Tryz.laysSlN44_f115_ren := {
  mixed := by kernel_rfl
  f44 := ⟨Tryz.f115.name, by decide, Tryz.func115.trans (congrArg some (by kernel_rfl))⟩
  t0 := Tryz.underlying0
  a0 := Tryz.isAgg0
  z0 := Tryz.sizeOf0
  v0 := Tryz.zeroValue0
  t3 := Tryz.underlying3
  a3 := Tryz.isAgg3
  z3 := Tryz.sizeOf3
  v3 := Tryz.zeroValue3
  t4 := Tryz.underlying4
  a4 := Tryz.isAgg4
  z4 := Tryz.sizeOf4
  v4 := Tryz.zeroValue4
  t25 := Tryz.underlying72
  a25 := Tryz.isAgg72
  z25 := Tryz.sizeOf72
  v25 := Tryz.zeroValue72
  t26 := Tryz.underlying9
  a26 := Tryz.isAgg9
  z26 := Tryz.sizeOf9
  v26 := Tryz.zeroValue9
  i26 := by kernel_rfl }
open Go.RowKit Go.Lib Go.Sort in
theorem Tryz.slices_Compact_string_arr (blk off cap : Nat) (d : Array (List UInt8)) (w : World) (hH : Holds encStr w blk off d) (hsz : d.size ≤ 9223372036854775807) (hcap : d.size ≤ cap) :
    Calls Tryz.prog 115 #[.slice (some ⟨blk, off, none⟩) d.size cap] w fun e w' => e = .returned (.slice (some ⟨blk, off, none⟩) (compactUpTo d d.size).length cap) ∧ ∃ q, w' = putRow encStr (Sort.ahead w q) blk off (compactUpTo d d.size ++ List.replicate (d.size - (compactUpTo d d.size).length) []).toArray := AnyG.slices_Compact_string_arr Tryz.laysSlN44_f115 blk off cap d w hH hsz hcap
open Go.RowKit Go.Lib Go.Sort in
theorem Tryz.slices_Compact_string (blk off cap : Nat) (zs : List (List UInt8)) (w : World) (hH : Holds encStr w blk off zs.toArray) (hsz : zs.length ≤ 9223372036854775807) (hcap : zs.length ≤ cap) :
    Calls Tryz.prog 115 #[.slice (some ⟨blk, off, none⟩) zs.length cap] w fun e w' => e = .returned (.slice (some ⟨blk, off, none⟩) (Lib.compact zs).length cap) ∧ ∃ q, w' = putRow encStr (Sort.ahead w q) blk off (Lib.compact zs ++ List.replicate (zs.length - (Lib.compact zs).length) []).toArray := AnyG.slices_Compact_string Tryz.laysSlN44_f115 blk off cap zs w hH hsz hcap
open Go.RowKit Go.Lib Go.Sort in
theorem Tryz.slices_Compact_string_empty (a : Option Addr) (cap : Nat) (w : World) :
    Calls Tryz.prog 115 #[.slice a 0 cap] w fun e w' => e = .returned (.slice a 0 cap) ∧ w' = w := AnyG.slices_Compact_string_empty Tryz.laysSlN44_f115 a cap w
def Tryz.laysSlM5_f125_ren : Go.Shelf.Ren := ⟨fun | 5 => 125 | 8 => 145 | 7 => 153 | 19 => 166 | 20 => 167 | 10 => 169 | 11 => 170 | 12 => 171 | 13 => 172 | 14 => 173 | 15 => 174 | 16 => 154 | 17 => 175 | 18 => 176 | 30 => 191 | 31 => 187 | 32 => 188 | 33 => 192 | 34 => 193 | 35 => 177 | 40 => 199 | n => n, fun | 23 => 80 | 25 => 2 | 3 => 3 | 32 => 92 | 22 => 80 | 0 => 0 | 44 => 190 | 46 => 68 | 4 => 4 | 36 => 184 | 35 => 183 | 41 => 152 | 5 => 5 | 9 => 9 | 53 => 200 | 57 => 203 | 63 => 208 | 64 => 209 | n => n, fun | n => n⟩
theorem Tryz.laysSlM5_f125 : Go.Proofs.SlLaysM.n5 Tryz.prog Tryz.laysSlM5_f125_ren := {
  mixed := by kernel_rfl
  f5 := ⟨Tryz.f125.name, by decide, Tryz.func125.trans (congrArg some (by kernel_rfl))⟩
  f7 := ⟨Tryz.f153.name, by decide, Tryz.func153.trans (congrArg some (by kernel_rfl))⟩
  f8 := Tryz.func145.trans (congrArg some (by kernel_rfl))
  f10 := ⟨Tryz.f169.name, by decide, Tryz.func169.trans (congrArg some (by kernel_rfl))⟩
  f11 := ⟨Tryz.f170.name, by decide, Tryz.func170.trans (congrArg some (by kernel_rfl))⟩
  f12 := ⟨Tryz.f171.name, by decide, Tryz.func171.trans (congrArg some (by kernel_rfl))⟩
  f13 := ⟨Tryz.f172.name, by decide, Tryz.func172.trans (congrArg some (by kernel_rfl))⟩
  f14 := ⟨Tryz.f173.name, by decide, Tryz.func173.trans (congrArg some (by kernel_rfl))⟩
  f15 := ⟨Tryz.f174.name, by decide, Tryz.func174.trans (congrArg some (by kernel_rfl))⟩
  f16 := ⟨Tryz.f154.name, by decide, Tryz.func154.trans (congrArg some (by kernel_rfl))⟩
  f17 := ⟨Tryz.f175.name, by decide, Tryz.func175.trans (congrArg some (by kernel_rfl))⟩
  f18 := ⟨Tryz.f176.name, by decide, Tryz.func176.trans (congrArg some (by kernel_rfl))⟩
  f19 := Tryz.func166.trans (congrArg some (by kernel_rfl))
  f20 := Tryz.func167.trans (congrArg some (by kernel_rfl))
  f30 := ⟨Tryz.f191.name, by decide, Tryz.func191.trans (congrArg some (by kernel_rfl))⟩
  f31 := Tryz.func187.trans (congrArg some (by kernel_rfl))
  f32 := Tryz.func188.trans (congrArg some (by kernel_rfl))
  f33 := ⟨Tryz.f192.name, by decide, Tryz.func192.trans (congrArg some (by kernel_rfl))⟩
  f34 := ⟨Tryz.f193.name, by decide, Tryz.func193.trans (congrArg some (by kernel_rfl))⟩
  f35 := ⟨Tryz.f177.name, by decide, Tryz.func177.trans (congrArg some (by kernel_rfl))⟩
  f40 := ⟨Tryz.f199.name, by decide, Tryz.func199.trans (congrArg some (by kernel_rfl))⟩
  t0 := Tryz.underlying0
  a0 := Tryz.isAgg0
  z0 := Tryz.sizeOf0
  v0 := Tryz.zeroValue0
  t3 := Tryz.underlying3
  a3 := Tryz.isAgg3
  z3 := Tryz.sizeOf3
  v3 := Tryz.zeroValue3
  t4 := Tryz.underlying4
  a4 := Tryz.isAgg4
  z4 := Tryz.sizeOf4
  v4 := Tryz.zeroValue4
  t5 := Tryz.underlying5
  a5 := Tryz.isAgg5
  z5 := Tryz.sizeOf5
  v5 := Tryz.zeroValue5
  t9 := Tryz.underlying9
  a9 := Tryz.isAgg9
  z9 := Tryz.sizeOf9
  v9 := Tryz.zeroValue9
  t22 := Tryz.underlying80
  a22 := Tryz.isAgg80
  z22 := Tryz.sizeOf80
  v22 := Tryz.zeroValue80
  t23 := Tryz.underlying80
  a23 := Tryz.isAgg80
  z23 := Tryz.sizeOf80
  v23 := Tryz.zeroValue80
  t25 := Tryz.underlying2
  a25 := Tryz.isAgg2
  z25 := Tryz.sizeOf2
  v25 := Tryz.zeroValue2
  t32 := Tryz.underlying92
  a32 := Tryz.isAgg92
  z32 := Tryz.sizeOf92
  v32 := Tryz.zeroValue92
  t35 := Tryz.underlying183
  a35 := Tryz.isAgg183
  z35 := Tryz.sizeOf183
  v35 := Tryz.zeroValue183
  t36 := Tryz.underlying184
  a36 := Tryz.isAgg184
  z36 := Tryz.sizeOf184
  v36 := Tryz.zeroValue184
  t41 := Tryz.underlying152
  a41 := Tryz.isAgg152
  z41 := Tryz.sizeOf152
  v41 := Tryz.zeroValue152
  t44 := Tryz.underlying190
  a44 := Tryz.isAgg190
  z44 := Tryz.sizeOf190
  v44 := Tryz.zeroValue190
  t46 := Tryz.underlying68
  a46 := Tryz.isAgg68
  z46 := Tryz.sizeOf68
  v46 := Tryz.zeroValue68
  t53 := Tryz.underlying200
  a53 := Tryz.isAgg200
  z53 := Tryz.sizeOf200
  v53 := Tryz.zeroValue200
  t57 := Tryz.underlying203
  a57 := Tryz.isAgg203
  z57 := Tryz.sizeOf203
  v57 := Tryz.zeroValue203
  t63 := Tryz.underlying208
  a63 := Tryz.isAgg208
  z63 := Tryz.sizeOf208
  v63 := Tryz.zeroValue208
  t64 := Tryz.underlying209
  a64 := Tryz.isAgg209
  z64 := Tryz.sizeOf209
  v64 := Tryz.zeroValue209 }
open Go.Sort Go.RowKit in
theorem Tryz.slices_Sort_int (blk off cap : Nat) (zs : List Int) (w : World) (hH : Holds (Value.int .i64) w blk off zs.toArray) (hblk : blk < w.heap.size) (hsz : zs.length < 4611686018427387904) :
    Calls Tryz.prog 125 #[.slice (some ⟨blk, off, none⟩) zs.length cap] w fun e w' =>
      e = .returned (.tuple #[]) ∧ ∃ n os, w' = grow (putRow (Value.int .i64) (Sort.ahead w n) blk off (zs.mergeSort fun x y => decide (x ≤ y)).toArray) os := AnyM.slices_Sort_int Tryz.laysSlM5_f125 blk off cap zs w hH hblk hsz
def Tryz.laysSlM6_f114_ren : Go.Shelf.Ren := ⟨fun | 6 => 114 | 8 => 145 | 9 => 144 | 19 => 166 | 20 => 167 | 21 => 158 | 22 => 159 | 23 => 160 | 24 => 161 | 25 => 162 | 26 => 163 | 27 => 146 | 28 => 164 | 29 => 165 | 36 => 186 | 31 => 187 | 32 => 188 | 37 => 189 | 38 => 190 | 39 => 168 | 41 => 198 | n => n, fun | 27 => 72 | 29 => 9 | 3 => 3 | 32 => 92 | 26 => 72 | 0 => 0 | 44 => 190 | 46 => 68 | 4 => 4 | 36 => 184 | 35 => 183 | 41 => 152 | 5 => 5 | 9 => 9 | 53 => 200 | 57 => 203 | 63 => 208 | 64 => 209 | n => n, fun | n => n⟩
theorem Tryz.laysSlM6_f114 : Go.Proofs.SlLaysM.n6 Tryz.prog Tryz.laysSlM6_f114_ren := {
  mixed := by kernel_rfl
  f6 := ⟨Tryz.f114.name, by decide, Tryz.func114.trans (congrArg some (by kernel_rfl))⟩
  f8 := Tryz.func145.trans (congrArg some (by kernel_rfl))
  f9 := ⟨Tryz.f144.name, by decide, Tryz.func144.trans (congrArg some (by kernel_rfl))⟩
  f19 := Tryz.func166.trans (congrArg some (by kernel_rfl))
  f20 := Tryz.func167.trans (congrArg some (by kernel_rfl))
  f21 := ⟨Tryz.f158.name, by decide, Tryz.func158.trans (congrArg some (by kernel_rfl))⟩
  f22 := ⟨Tryz.f159.name, by decide, Tryz.func159.trans (congrArg some (by kernel_rfl))⟩
  f23 := ⟨Tryz.f160.name, by decide, Tryz.func160.trans (congrArg some (by kernel_rfl))⟩
  f24 := ⟨Tryz.f161.name, by decide, Tryz.func161.trans (congrArg some (by kernel_rfl))⟩
  f25 := ⟨Tryz.f162.name, by decide, Tryz.func162.trans (congrArg some (by kernel_rfl))⟩
  f26 := ⟨Tryz.f163.name, by decide, Tryz.func163.trans (congrArg some (by kernel_rfl))⟩
  f27 := ⟨Tryz.f146.name, by decide, Tryz.func146.trans (congrArg some (by kernel_rfl))⟩
  f28 := ⟨Tryz.f164.name, by decide, Tryz.func164.trans (congrArg some (by kernel_rfl))⟩
  f29 := ⟨Tryz.f165.name, by decide, Tryz.func165.trans (congrArg some (by kernel_rfl))⟩
  f31 := Tryz.func187.trans (congrArg some (by kernel_rfl))
  f32 := Tryz.func188.trans (congrArg some (by kernel_rfl))
  f36 := ⟨Tryz.f186.name, by decide, Tryz.func186.trans (congrArg some (by kernel_rfl))⟩
  f37 := ⟨Tryz.f189.name, by decide, Tryz.func189.trans (congrArg some (by kernel_rfl))⟩
  f38 := ⟨Tryz.f190.name, by decide, Tryz.func190.trans (congrArg some (by kernel_rfl))⟩
  f39 := ⟨Tryz.f168.name, by decide, Tryz.func168.trans (congrArg some (by kernel_rfl))⟩
  f41 := ⟨Tryz.f198.name, by decide, Tryz.func198.trans (congrArg some (by kernel_rfl))⟩
  t0 := Tryz.underlying0
  a0 := Tryz.isAgg0
  z0 := Tryz.sizeOf0
  v0 := Tryz.zeroValue0
  t3 := Tryz.underlying3
  a3 := Tryz.isAgg3
  z3 := Tryz.sizeOf3
  v3 := Tryz.zeroValue3
  t4 := Tryz.underlying4
  a4 := Tryz.isAgg4
  z4 := Tryz.sizeOf4
  v4 := Tryz.zeroValue4
  t5 := Tryz.underlying5
  a5 := Tryz.isAgg5
  z5 := Tryz.sizeOf5
  v5 := Tryz.zeroValue5
  t9 := Tryz.underlying9
  a9 := Tryz.isAgg9
  z9 := Tryz.sizeOf9
  v9 := Tryz.zeroValue9
  t26 := Tryz.underlying72
  a26 := Tryz.isAgg72
  z26 := Tryz.sizeOf72
  v26 := Tryz.zeroValue72
  t27 := Tryz.underlying72
  a27 := Tryz.isAgg72
  z27 := Tryz.sizeOf72
  v27 := Tryz.zeroValue72
  t29 := Tryz.underlying9
  a29 := Tryz.isAgg9
  z29 := Tryz.sizeOf9
  v29 := Tryz.zeroValue9
  t32 := Tryz.underlying92
  a32 := Tryz.isAgg92
  z32 := Tryz.sizeOf92
  v32 := Tryz.zeroValue92
  t35 := Tryz.underlying183
  a35 := Tryz.isAgg183
  z35 := Tryz.sizeOf183
  v35 := Tryz.zeroValue183
  t36 := Tryz.underlying184
  a36 := Tryz.isAgg184
  z36 := Tryz.sizeOf184
  v36 := Tryz.zeroValue184
  t41 := Tryz.underlying152
  a41 := Tryz.isAgg152
  z41 := Tryz.sizeOf152
  v41 := Tryz.zeroValue152
  t44 := Tryz.underlying190
  a44 := Tryz.isAgg190
  z44 := Tryz.sizeOf190
  v44 := Tryz.zeroValue190
  t46 := Tryz.underlying68
  a46 := Tryz.isAgg68
  z46 := Tryz.sizeOf68
  v46 := Tryz.zeroValue68
  t53 := Tryz.underlying200
  a53 := Tryz.isAgg200
  z53 := Tryz.sizeOf200
  v53 := Tryz.zeroValue200
  t57 := Tryz.underlying203
  a57 := Tryz.isAgg203
  z57 := Tryz.sizeOf203
  v57 := Tryz.zeroValue203
  t63 := Tryz.underlying208
  a63 := Tryz.isAgg208
  z63 := Tryz.sizeOf208
  v63 := Tryz.zeroValue208
  t64 := Tryz.underlying209
  a64 := Tryz.isAgg209
  z64 := Tryz.sizeOf209
  v64 := Tryz.zeroValue209 }
open Go.Sort Go.RowKit in
theorem Tryz.slices_Sort_string (blk off cap : Nat) (ss : List (List UInt8)) (w : World) (hH : Holds encStr w blk off ss.toArray) (hblk : blk < w.heap.size) (hsz : ss.length < 4611686018427387904) :
    Calls Tryz.prog 114 #[.slice (some ⟨blk, off, none⟩) ss.length cap] w fun e w' =>
      e = .returned (.tuple #[]) ∧ ∃ n os, w' = grow (putRow encStr (Sort.ahead w n) blk off (ss.mergeSort fun x y => decide (x ≤ y)).toArray) os := AnyM.slices_Sort_string Tryz.laysSlM6_f114 blk off cap ss w hH hblk hsz
open Go.RowKit Go.Sort in
theorem Tryz.slices_Sort_string_none (p : Option Addr) (cap : Nat) (w : World) :
    Calls Tryz.prog 114 #[.slice p 0 cap] w fun e w' => e = .returned (.tuple #[]) ∧ w' = w := AnyM.slices_Sort_string_none Tryz.laysSlM6_f114 p cap w
open Go.RowKit Go.Sort in
theorem Tryz.slices_Sort_int_none (p : Option Addr) (cap : Nat) (w : World) :
    Calls Tryz.prog 125 #[.slice p 0 cap] w fun e w' => e = .returned (.tuple #[]) ∧ w' = w := AnyM.slices_Sort_int_none Tryz.laysSlM5_f125 p cap w
end Go.Proofs

/- The library's Clone, Sort and Compact, over numbers and over strings, as they bear upon a list that the call owns. -/
set_option linter.unusedVariables false
set_option linter.unusedSimpArgs false
set_option linter.unnecessarySimpa false
set_option maxRecDepth 100000
namespace Go.Proofs.YtdlkdiaobbakiaaGreatDoor
open Go.RowKit Go.Sort

theorem owns_pos {w : World} {B : Nat} {e : TypeId} {v : Value} {n : Nat} {cs : List Value} (h : w.ownsRow B e 1 v n cs) (h0 : 0 < n) : v ≠ .slice none 0 0 := by
  rintro rfl
  obtain ⟨A, c, h1, h2, _, _⟩ := owns_form h
  injection h1 with h3 h4 h5
  omega
theorem owns_zero {w : World} {B : Nat} {e : TypeId} {v : Value} {cs : List Value} (h : w.ownsRow B e 1 v 0 cs) : cs = [] := List.eq_nil_of_length_eq_zero (by have := h.1; omega)
theorem CloneI_any (xs : List Int) (u : Value) (w : World) (hu : Rd w u xs.length 1 (i64s xs)) (hl : xs.length ≤ 1048576) :
    Calls Tryz.prog 124 #[u] w fun e w' => ∃ v', e = .returned v' ∧ w'.ownsRow w.heap.size 2 1 v' xs.length (i64s xs) ∧ Below w.heap.size w w' := by
  obtain ⟨A1, c1, rfl, _, _, _⟩ := hu.form
  by_cases h0 : 0 < xs.length
  · obtain ⟨b, o, rfl, hs⟩ := hu.atI h0
    have h := Tryz.slices_Clone_int b o xs.length c1 xs w (Nat.le_refl _) (by omega) hs
    rw [List.take_length] at h
    refine h.mono ?_
    rintro e w' ⟨v', rfl, h1, h2, h3⟩
    exact ⟨v', rfl, h1, h3⟩
  · obtain rfl : xs = [] := List.eq_nil_of_length_eq_zero (by omega)
    cases A1 with
    | none =>
      refine (Tryz.slices_Clone_int_nil 0 c1 w).mono ?_
      rintro e w' ⟨rfl, rfl⟩
      exact ⟨_, rfl, World.ownsRow_nil _ _ _ _, brefl w'⟩
    | some a =>
      refine (Tryz.slices_Clone_int_zero a c1 w).mono ?_
      rintro e w' ⟨v', rfl, h1, h2, h3⟩
      exact ⟨v', rfl, h1, h3⟩
theorem CloneS_any (xs : List ByteArray) (u : Value) (w : World) (hu : Rd w u xs.length 1 (strs xs)) (hl : xs.length ≤ 1048576) :
    Calls Tryz.prog 113 #[u] w fun e w' => ∃ v', e = .returned v' ∧ w'.ownsRow w.heap.size 9 1 v' xs.length (strs xs) ∧ Below w.heap.size w w' := by
  obtain ⟨A1, c1, rfl, _, _, _⟩ := hu.form
  by_cases h0 : 0 < xs.length
  · obtain ⟨b, o, rfl, hs⟩ := hu.atS h0
    have h := Tryz.slices_Clone_string b o xs.length c1 xs w (Nat.le_refl _) (by omega) hs
    rw [List.take_length] at h
    refine h.mono ?_
    rintro e w' ⟨v', rfl, h1, h2, h3⟩
    exact ⟨v', rfl, h1, h3⟩
  · obtain rfl : xs = [] := List.eq_nil_of_length_eq_zero (by omega)
    cases A1 with
    | none =>
      refine (Tryz.slices_Clone_string_nil 0 c1 w).mono ?_
      rintro e w' ⟨rfl, rfl⟩
      exact ⟨_, rfl, World.ownsRow_nil _ _ _ _, brefl w'⟩
    | some a =>
      refine (Tryz.slices_Clone_string_zero a c1 w).mono ?_
      rintro e w' ⟨v', rfl, h1, h2, h3⟩
      exact ⟨v', rfl, h1, h3⟩
theorem SortI_any (B : Nat) (xs : List Int) (u : Value) (w : World) (hu : w.ownsRow B 2 1 u xs.length (i64s xs)) (hB : B ≤ w.heap.size) (hl : xs.length ≤ 1048576) :
    Calls Tryz.prog 125 #[u] w fun e w' => e = .returned (.tuple #[]) ∧ w'.ownsRow B 2 1 u (xs.mergeSort fun x y => decide (x ≤ y)).length (i64s (xs.mergeSort fun x y => decide (x ≤ y))) ∧ Below B w w' := by
  have hlm : (xs.mergeSort fun x y => decide (x ≤ y)).length = xs.length := List.length_mergeSort xs
  by_cases h0 : 0 < xs.length
  · obtain ⟨g, cap, rfl, hbg, hgl, hncap, hcm, hlen, hH⟩ := Lib.holds_of_ownsRow (enc := Value.int .i64) hu (owns_pos hu h0)
    refine (Tryz.slices_Sort_int g 0 cap xs w hH hgl (by omega)).mono ?_
    rintro e w' ⟨rfl, n, os, rfl⟩
    refine ⟨rfl, ?_, (Below.refl B w).grown (grownBy_sortedI _) hB (fun j hj => by cases hj; exact hbg)⟩
    rcases hu.2 with ⟨h1, _⟩ | ⟨g', cap', cur, hv, hbase, hb, h1, h2, h3, h4⟩
    · cases h1
    · injection hv with e1 _ e3
      injection e1 with e1
      injection e1 with e1
      subst e1; subst e3
      rw [hlm]
      exact ownsRow_sortedI hlm hbase hb h1 h2 h3
  · obtain rfl : xs = [] := List.eq_nil_of_length_eq_zero (by omega)
    obtain ⟨A, c, rfl, _⟩ := owns_form hu
    refine (Tryz.slices_Sort_int_none A c w).mono ?_
    rintro e w' ⟨rfl, rfl⟩
    exact ⟨rfl, by simpa using hu, Below.refl _ _⟩
theorem SortS_any (B : Nat) (xs : List (List UInt8)) (u : Value) (w : World) (hu : w.ownsRow B 9 1 u xs.length (xs.map encStr)) (hB : B ≤ w.heap.size) (hl : xs.length ≤ 1048576) :
    Calls Tryz.prog 114 #[u] w fun e w' => e = .returned (.tuple #[]) ∧ w'.ownsRow B 9 1 u (xs.mergeSort fun x y => decide (x ≤ y)).length ((xs.mergeSort fun x y => decide (x ≤ y)).map encStr) ∧ Below B w w' := by
  have hlm : (xs.mergeSort fun x y => decide (x ≤ y)).length = xs.length := List.length_mergeSort xs
  by_cases h0 : 0 < xs.length
  · obtain ⟨g, cap, rfl, hbg, hgl, hncap, hcm, hlen, hH⟩ := Lib.holds_of_ownsRow (enc := encStr) hu (owns_pos hu h0)
    refine (Tryz.slices_Sort_string g 0 cap xs w hH hgl (by omega)).mono ?_
    rintro e w' ⟨rfl, n, os, rfl⟩
    refine ⟨rfl, ?_, (Below.refl B w).grown (grownBy_sorted _) hB (fun j hj => by cases hj; exact hbg)⟩
    rcases hu.2 with ⟨h1, _⟩ | ⟨g', cap', cur, hv, hbase, hb, h1, h2, h3, h4⟩
    · cases h1
    · injection hv with e1 _ e3
      injection e1 with e1
      injection e1 with e1
      subst e1; subst e3
      rw [hlm]
      exact ownsRow_sorted hlm hbase hb h1 h2 h3
  · obtain rfl : xs = [] := List.eq_nil_of_length_eq_zero (by omega)
    obtain ⟨A, c, rfl, _⟩ := owns_form hu
    refine (Tryz.slices_Sort_string_none A c w).mono ?_
    rintro e w' ⟨rfl, rfl⟩
    exact ⟨rfl, by simpa using hu, Below.refl _ _⟩
theorem CompactI_any (B : Nat) (xs : List Int) (u : Value) (w : World) (hu : w.ownsRow B 2 1 u xs.length (i64s xs)) (hB : B ≤ w.heap.size) (hl : xs.length ≤ 1048576) :
    Calls Tryz.prog 126 #[u] w fun e w' => ∃ v', e = .returned v' ∧ w'.ownsRow B 2 1 v' (Lib.compact xs).length (i64s (Lib.compact xs)) ∧ Below B w w' := by
  have hle := Lib.compact_length_le xs
  by_cases h0 : 0 < xs.length
  · obtain ⟨g, cap, rfl, hbg, hgl, hncap, hcm, hlen, hH⟩ := Lib.holds_of_ownsRow (enc := Value.int .i64) hu (owns_pos hu h0)
    refine (Tryz.slices_Compact_int g 0 cap xs w hH (by omega) (by omega)).mono ?_
    rintro e w' ⟨rfl, q, rfl⟩
    refine ⟨_, rfl, ?_, Lib.below_putRow (Below.refl B w) hbg⟩
    have hc := Lib.ownsRow_putRow (q := q) (k := (Lib.compact xs).length) (ys := Lib.compact xs ++ List.replicate (xs.length - (Lib.compact xs).length) 0) (enc := Value.int .i64) hu (by simp; omega) hle
    rw [List.take_left] at hc
    exact hc
  · obtain rfl : xs = [] := List.eq_nil_of_length_eq_zero (by omega)
    obtain ⟨A, c, rfl, _⟩ := owns_form hu
    refine (Tryz.slices_Compact_int_empty A c w).mono ?_
    rintro e w' ⟨rfl, rfl⟩
    exact ⟨_, rfl, hu, Below.refl _ _⟩
theorem CompactS_any (B : Nat) (xs : List (List UInt8)) (u : Value) (w : World) (hu : w.ownsRow B 9 1 u xs.length (xs.map encStr)) (hB : B ≤ w.heap.size) (hl : xs.length ≤ 1048576) :
    Calls Tryz.prog 115 #[u] w fun e w' => ∃ v', e = .returned v' ∧ w'.ownsRow B 9 1 v' (Lib.compact xs).length ((Lib.compact xs).map encStr) ∧ Below B w w' := by
  have hle := Lib.compact_length_le xs
  by_cases h0 : 0 < xs.length
  · obtain ⟨g, cap, rfl, hbg, hgl, hncap, hcm, hlen, hH⟩ := Lib.holds_of_ownsRow (enc := encStr) hu (owns_pos hu h0)
    refine (Tryz.slices_Compact_string g 0 cap xs w hH (by omega) (by omega)).mono ?_
    rintro e w' ⟨rfl, q, rfl⟩
    refine ⟨_, rfl, ?_, Lib.below_putRow (Below.refl B w) hbg⟩
    have hc := Lib.ownsRow_putRow (q := q) (k := (Lib.compact xs).length) (ys := Lib.compact xs ++ List.replicate (xs.length - (Lib.compact xs).length) []) (enc := encStr) hu (by simp; omega) hle
    rw [List.take_left] at hc
    exact hc
  · obtain rfl : xs = [] := List.eq_nil_of_length_eq_zero (by omega)
    obtain ⟨A, c, rfl, _⟩ := owns_form hu
    refine (Tryz.slices_Compact_string_empty A c w).mono ?_
    rintro e w' ⟨rfl, rfl⟩
    exact ⟨_, rfl, hu, Below.refl _ _⟩
theorem strs_enc (ss : List ByteArray) : (ss.map (·.data.toList)).map encStr = strs ss := Lib.map_encStr ss
theorem strs_dict (ss : List ByteArray) : (Lib.compact ((ss.map (·.data.toList)).mergeSort fun x y => decide (x ≤ y))).map encStr = strs (dictS ss) := by
  unfold dictS strs
  rw [List.map_map]; rfl
/-- Clone, Sort and Compact one behind the other: what stands ahead of the loop of dictPayload -/
theorem dictS_le (ss : List ByteArray) : (dictS ss).length ≤ ss.length := by
  unfold dictS
  rw [List.length_map]
  refine Nat.le_trans (Lib.compact_length_le _) ?_
  rw [List.length_mergeSort, List.length_map]; exact Nat.le_refl _
theorem dictI_le (xs : List Int) : (dictI xs).length ≤ xs.length := by
  unfold dictI
  refine Nat.le_trans (Lib.compact_length_le _) ?_
  rw [List.length_mergeSort]; exact Nat.le_refl _
end Go.Proofs.YtdlkdiaobbakiaaGreatDoor

/- Package codec: runs of integers put into bytes. -/
set_option linter.unusedVariables false
set_option linter.unusedSimpArgs false
set_option linter.unnecessarySimpa false
set_option maxRecDepth 100000
namespace Go.Proofs.YtdlkdiaobbakiaaGreatDoor
open Go.RowKit

theorem m_Append_I : ∀ w : World, (method 329 46 (.agg #[]) "AppendList").run Tryz.prog w = .ok (221, .agg #[]) w := fun _ => by kernel_rfl
theorem ordS_refl0 : ordS ByteArray.empty ByteArray.empty = 0 := by decide +kernel
theorem eqP_pI (x y : Int) : eqP (pI x) (pI y) = decide (x = y) := by
  unfold eqP ordP pI
  simp only [ordS_refl0]
  by_cases h1 : x < y
  · rw [if_pos h1]; have : ¬ x = y := by omega
    simp [this]
  · rw [if_neg h1]
    by_cases h2 : y < x
    · rw [if_pos h2]; have : ¬ x = y := by omega
      simp [this]
    · rw [if_neg h2]; have : x = y := by omega
      simp [this]
theorem pI_get (xs : List Int) (t : Nat) (h : t < xs.length) : (xs.map pI).getD t dfP = pI (xs.getD t 0) := by
  simp [List.getD, List.getElem?_eq_getElem h]
theorem endAt_I (xs : List Int) (t : Nat) (h : t + 1 < xs.length) : endAt (xs.map pI) t = !decide (xs.getD t 0 = xs.getD (t + 1) 0) := by
  unfold endAt
  rw [pI_get xs t (by omega), pI_get xs (t + 1) h, eqP_pI, List.length_map, decide_eq_false (by omega), Bool.false_or]
theorem endAt_last (vs : List PV) (t : Nat) (h : t + 1 = vs.length) : endAt vs t = true := by
  unfold endAt; rw [decide_eq_true h, Bool.true_or]
theorem textB_heads (xs : List Int) : textB ((runHeads (xs.map pI) xs.length).map Prod.snd) = [] := by
  unfold textB runHeads
  rw [List.flatMap_eq_nil_iff]
  intro s hs
  simp only [List.map_map, List.mem_map, Function.comp] at hs
  obtain ⟨i, hi, rfl⟩ := hs
  simp only [endIx, List.mem_filter, List.mem_range] at hi
  rw [pI_get xs i hi.1]
  rfl
set_option maxHeartbeats 8000000 in
theorem runsPayloadI_any (xs : List Int) (u : Value) (w : World) (hu : Rd w u xs.length 1 (i64s xs)) (hl : xs.length ≤ 1048576) :
    Calls Tryz.prog 87 #[.iface 46 (.agg #[]), u] w fun e w' => ∃ r, e = .returned r ∧ OwnB w.heap.size w' r (runsB 1 (xs.map pI)) ∧ Below w.heap.size w w' := by
  have HU := hid hu
  obtain ⟨A1, c1, rfl, _, _, _⟩ := hu.form
  have HRR : Hid (runsB 1 (xs.map pI) = leN 4 (runEndsL (xs.map pI) xs.length).length ++ le4 ((runEndsL (xs.map pI) xs.length).map Int.ofNat) ++ le8I ((runHeads (xs.map pI) xs.length).map Prod.fst)) := hid (by
    unfold runsB listB headB
    rw [List.length_map, textB_heads, if_pos rfl, List.append_nil]
    congr 2
    simp [le4, le4N, List.flatMap_map])
  generalize runsB 1 (xs.map pI) = R at *
  obtain ⟨n, hn⟩ : ∃ n, xs.length = n := ⟨_, rfl⟩
  have HN := hid hn
  simp only [hn] at HU HRR hl
  clear hu
  simp only [hn]
  have HVN : Hid ((xs.map pI).length = n) := hid (by rw [List.length_map]; exact hn)
  clear hn
  go_enter Tryz.func87, Tryz.ntmps87
  go_wp2_with fail
  go_loopw [5, 6, 12] (fun ev fv i wr => ∃ t : Nat, t ≤ n ∧ i = .int .i64 t ∧ Hid (wr.ownsRow w.heap.size 3 1 ev (runEndsL (xs.map pI) t).length (i64s ((runEndsL (xs.map pI) t).map Int.ofNat))) ∧ Hid (wr.ownsRow w.heap.size 2 1 fv (runEndsL (xs.map pI) t).length (i64s ((runHeads (xs.map pI) t).map Prod.fst))) ∧ Hid (Apart ev fv) ∧ Hid (Below w.heap.size w wr)) (fun _ _ i _ => n - (intOf i).toNat)
  case atStart => exact ⟨0, by omega, rfl, hid (World.ownsRow_nil _ _ _ _), hid (World.ownsRow_nil _ _ _ _), hid (fun k h => by cases h), hid (brefl w)⟩
  case round =>
    obtain ⟨t, ht, rfl, HE, HF, HAP, HB⟩ := hrel
    by_cases hlt : t < n
    · obtain ⟨b, o, rfl, hcells⟩ := (HU.out.mono HB.out).atI (by omega)
      have l0 := hcells t (by rw [HN.out]; exact hlt)
      have HC := hid hcells
      clear hcells
      have HSE := hid (runEndsL_succ (xs.map pI) t)
      have HSF := hid (runHeads_succ (xs.map pI) t)
      rw [pI_get xs t (by rw [HN.out]; exact hlt)] at HSF
      have HML := hid (runEndsL_len (xs.map pI) t)
      have HEA := hid (fun (h : t + 1 < n) => endAt_I xs t (by rw [HN.out]; exact h))
      have HEL := hid (fun (h : t + 1 = n) => endAt_last (xs.map pI) t (by rw [HVN.out]; exact h))
      generalize xs.getD t 0 = x at *
      generalize runEndsL (xs.map pI) t = es at *
      generalize runHeads (xs.map pI) t = hs at *
      obtain ⟨m, hm⟩ : ∃ m, es.length = m := ⟨_, rfl⟩
      have HM := hid hm
      simp only [hm] at HE HF HML
      have hm9 : m ≤ 1048576 := by have := HML.out; omega
      clear hm
      obtain ⟨E1, ce1, rfl, _⟩ := owns_form HE.out
      obtain ⟨F1, cf1, rfl, _⟩ := owns_form HF.out
      have HSZ := hid HB.out.size
      have hlast : t + 1 = n ∨ t + 1 < n := by omega
      by_cases hend : endAt (xs.map pI) t = true
      · have HEN := hid hend
        have hg : ((t : Int) + 1 == (n : Int)) = true ∨ (t + 1 < n ∧ ∃ y, xs.getD (t + 1) 0 = y ∧ y ≠ x) := by
          rcases hlast with h | h
          · exact .inl (by simp; omega)
          · refine .inr ⟨h, _, rfl, ?_⟩
            have h2 := HEA.out h
            rw [hend] at h2
            intro h3
            rw [h3] at h2
            simp at h2
        clear hend
        rcases hg with i0 | ⟨h1, y, hy, hyx⟩
        · go_upto_region 8 with (at_builtin; refine wpList_append1W rfl (.tmp 31) (.tmp 34) rfl 3 (.int .i64 0) 8 Tryz.underlying23 Tryz.infoI64 rfl rfl rfl HE.out HSZ.out (by rfl) (by unfold maxLen; omega) (by omega) ?_; intro v5 w5 ho5 hb5 hz5 hk5 hw5)
          have HO5 := hid ho5
          have HB5 := hid hb5
          have HZ5 := hid hz5
          have HK5 := hid (show Kp _ wr w5 v5 from ⟨hk5, fun k hk => by
            rcases hw5 with h | h
            · exact .inl (by rw [← h]; exact hk.symm)
            · exact .inr (h.1 k hk)⟩)
          clear ho5 hb5 hz5 hk5 hw5
          have HF5 := hid (owns_kp HF.out HK5.out HAP.out)
          have HAP5 := hid (HAP.out.left HK5.out (fun k hk => (HF.out.lt k hk).2))
          have HS5 := hid (Nat.le_trans HSZ.out HZ5.out)
          obtain ⟨E2, ce2, rfl, _⟩ := owns_form HO5.out
          go_wp2_with (at_builtin; refine wpList_append1W rfl (.tmp 36) (.tmp 38) rfl 2 (.int .i64 0) 8 Tryz.underlying80 Tryz.info64 rfl rfl rfl HF5.out HS5.out (by rfl) (by unfold maxLen; omega) (by omega) ?_; intro v6 w6 ho6 hb6 hz6 hk6 hw6)
          have HO6 := hid ho6
          have HB6 := hid hb6
          have HK6 := hid (show Kp _ w5 w6 v6 from ⟨hk6, fun k hk => by
            rcases hw6 with h | h
            · exact .inl (by rw [← h]; exact hk.symm)
            · exact .inr (h.1 k hk)⟩)
          clear ho6 hb6 hz6 hk6 hw6
          have HE6 := hid (owns_kp HO5.out HK6.out HAP5.out.symm)
          have HAP6 := hid (HAP5.out.right HK6.out (fun k hk => (HO5.out.lt k hk).2))
          go_roundw
          case rel =>
            have G1 : Hid ((runEndsL (xs.map pI) (t + 1)).length = m + 1) := hid (by rw [HSE.out, if_pos HEN.out, List.length_append, HM.out]; rfl)
            have G2 : Hid (i64s ((runEndsL (xs.map pI) (t + 1)).map Int.ofNat) = i64s (es.map Int.ofNat) ++ [.int .i64 ((t : Int) + 1)]) := hid (by rw [HSE.out, if_pos HEN.out, List.map_append, i64s_append]; rfl)
            have G3 : Hid (i64s ((runHeads (xs.map pI) (t + 1)).map Prod.fst) = i64s (hs.map Prod.fst) ++ [.int .i64 x]) := hid (by rw [HSF.out, if_pos HEN.out, List.map_append, i64s_append]; rfl)
            exact ⟨t + 1, by omega, by go_num, hid (by rw [G1.out, G2.out]; exact HE6.out), hid (by rw [G1.out, G3.out]; exact HO6.out), HAP6, hid (HB.out.trans (HB5.out.trans HB6.out))⟩
          case measure => simp [intOf]; omega
        · have l1 := HC.out (t + 1) (by rw [HN.out]; exact h1)
          rw [hy] at l1
          have iw : IntKind.i64.wrap ((t : Int) + 1) = (t : Int) + 1 := by rw [IntKind.wrap_i64]; omega
          have ig1 : (0 : Int) ≤ (t : Int) + 1 := by omega
          have ig2 : (t : Int) + 1 < (n : Int) := by omega
          have i0 : ((t : Int) + 1 == (n : Int)) = false := by simp; omega
          have iy : (y != x) = true := by simp [hyx]
          clear hy
          go_upto_region 8 with (at_builtin; refine wpList_append1W rfl (.tmp 31) (.tmp 34) rfl 3 (.int .i64 0) 8 Tryz.underlying23 Tryz.infoI64 rfl rfl rfl HE.out HSZ.out (by rfl) (by unfold maxLen; omega) (by omega) ?_; intro v5 w5 ho5 hb5 hz5 hk5 hw5)
          have HO5 := hid ho5
          have HB5 := hid hb5
          have HZ5 := hid hz5
          have HK5 := hid (show Kp _ wr w5 v5 from ⟨hk5, fun k hk => by
            rcases hw5 with h | h
            · exact .inl (by rw [← h]; exact hk.symm)
            · exact .inr (h.1 k hk)⟩)
          clear ho5 hb5 hz5 hk5 hw5
          have HF5 := hid (owns_kp HF.out HK5.out HAP.out)
          have HAP5 := hid (HAP.out.left HK5.out (fun k hk => (HF.out.lt k hk).2))
          have HS5 := hid (Nat.le_trans HSZ.out HZ5.out)
          obtain ⟨E2, ce2, rfl, _⟩ := owns_form HO5.out
          go_wp2_with (at_builtin; refine wpList_append1W rfl (.tmp 36) (.tmp 38) rfl 2 (.int .i64 0) 8 Tryz.underlying80 Tryz.info64 rfl rfl rfl HF5.out HS5.out (by rfl) (by unfold maxLen; omega) (by omega) ?_; intro v6 w6 ho6 hb6 hz6 hk6 hw6)
          have HO6 := hid ho6
          have HB6 := hid hb6
          have HK6 := hid (show Kp _ w5 w6 v6 from ⟨hk6, fun k hk => by
            rcases hw6 with h | h
            · exact .inl (by rw [← h]; exact hk.symm)
            · exact .inr (h.1 k hk)⟩)
          clear ho6 hb6 hz6 hk6 hw6
          have HE6 := hid (owns_kp HO5.out HK6.out HAP5.out.symm)
          have HAP6 := hid (HAP5.out.right HK6.out (fun k hk => (HO5.out.lt k hk).2))
          go_roundw
          case rel =>
            have G1 : Hid ((runEndsL (xs.map pI) (t + 1)).length = m + 1) := hid (by rw [HSE.out, if_pos HEN.out, List.length_append, HM.out]; rfl)
            have G2 : Hid (i64s ((runEndsL (xs.map pI) (t + 1)).map Int.ofNat) = i64s (es.map Int.ofNat) ++ [.int .i64 ((t : Int) + 1)]) := hid (by rw [HSE.out, if_pos HEN.out, List.map_append, i64s_append]; rfl)
            have G3 : Hid (i64s ((runHeads (xs.map pI) (t + 1)).map Prod.fst) = i64s (hs.map Prod.fst) ++ [.int .i64 x]) := hid (by rw [HSF.out, if_pos HEN.out, List.map_append, i64s_append]; rfl)
            exact ⟨t + 1, by omega, by go_num, hid (by rw [G1.out, G2.out]; exact HE6.out), hid (by rw [G1.out, G3.out]; exact HO6.out), HAP6, hid (HB.out.trans (HB5.out.trans HB6.out))⟩
          case measure => simp [intOf]; omega
      · have HEN := hid hend
        have h1 : t + 1 < n := by
          rcases hlast with h | h
          · exact absurd (HEL.out h) hend
          · exact h
        obtain ⟨y, hy, hyx⟩ : ∃ y, xs.getD (t + 1) 0 = y ∧ y = x := by
          refine ⟨_, rfl, ?_⟩
          have h2 := HEA.out h1
          rw [Bool.eq_false_iff.2 hend] at h2
          simp at h2
          exact h2.symm
        clear hend
        have l1 := HC.out (t + 1) (by rw [HN.out]; exact h1)
        rw [hy] at l1
        have iw : IntKind.i64.wrap ((t : Int) + 1) = (t : Int) + 1 := by rw [IntKind.wrap_i64]; omega
        have ig1 : (0 : Int) ≤ (t : Int) + 1 := by omega
        have ig2 : (t : Int) + 1 < (n : Int) := by omega
        have i0 : ((t : Int) + 1 == (n : Int)) = false := by simp; omega
        have iy : (y != x) = false := by simp [hyx]
        clear hy
        go_wp2_with fail
        go_roundw
        case rel => exact ⟨t + 1, by omega, by go_num, hid (by rw [HSE.out, if_neg HEN.out, HM.out]; exact HE.out), hid (by rw [HSE.out, HSF.out, if_neg HEN.out, if_neg HEN.out, HM.out]; exact HF.out), HAP, HB⟩
        case measure => simp [intOf]; omega
    · obtain rfl : t = n := by omega
      have HML := hid (runEndsL_len (xs.map pI) t)
      have HMX := hid (runEndsL_lt (xs.map pI) t)
      have HHL := hid (runHeads_len (xs.map pI) t)
      generalize runEndsL (xs.map pI) t = es at *
      generalize runHeads (xs.map pI) t = hs at *
      obtain ⟨m, hm⟩ : ∃ m, es.length = m := ⟨_, rfl⟩
      have HM := hid hm
      simp only [hm] at HE HF HML HHL HRR
      have hm9 : m ≤ 1048576 := by have := HML.out; omega
      clear hm
      obtain ⟨E1, ce1, rfl, _⟩ := owns_form HE.out
      obtain ⟨F1, cf1, rfl, _⟩ := owns_form HF.out
      have HE' := hid (owns_rd HE.out)
      have HF' := hid (owns_rd HF.out)
      have HN0 := hid (AppendU32_any wr.heap.size (.slice none 0 0) [] m wr (OwnB.nil _ _) (Nat.le_refl _) (by omega) (by simp))
      rw [List.nil_append] at HN0
      have HHH : Hid ((leN 4 m).length = 4) := hid (leN_length 4 m)
      have HLE : Hid ((es.map Int.ofNat).length = m) := hid (by rw [List.length_map]; exact HM.out)
      have HLF : Hid ((hs.map Prod.fst).length = m) := hid (by rw [List.length_map]; exact HHL.out)
      have HXV : Hid (∀ x ∈ es.map Int.ofNat, 0 ≤ x ∧ x < 4294967296) := hid (by
        intro x hx
        obtain ⟨y, hy, rfl⟩ := List.mem_map.1 hx
        have := HMX.out y hy
        exact ⟨Int.natCast_nonneg _, by have h : Int.ofNat y = (y : Int) := rfl; omega⟩)
      clear HE HF HAP HU HMX HHL HM
      generalize es.map Int.ofNat = eI at *
      generalize hs.map Prod.fst = hI at *
      generalize leN 4 m = hd at *
      have HPE := hid (fun (A3 : Option Addr) (c3 : Nat) (w3 : World) (h1 : OwnB wr.heap.size w3 (.slice A3 hd.length c3) hd) (h2 : Below wr.heap.size wr w3) => AppendU32s_any wr.heap.size (.slice A3 hd.length c3) (.slice E1 m ce1) hd eI w3 h1 (Stay.low (by rw [HLE.out]; exact HE'.out) h2 (Nat.le_refl _)) HXV.out h2.size (by rw [HHH.out]; omega) (by rw [HLE.out]; omega))
      have HBL : Hid ((hd ++ le4 eI).length = 4 + 4 * m) := hid (by rw [List.length_append, HHH.out, le4_len, HLE.out])
      generalize hd ++ le4 eI = bs at *
      have HPL := hid (fun (A3 : Option Addr) (c3 : Nat) (w3 : World) (h1 : OwnB wr.heap.size w3 (.slice A3 bs.length c3) bs) (h2 : Below wr.heap.size wr w3) => AppendListI_any wr.heap.size (.slice A3 bs.length c3) (.slice F1 m cf1) bs hI w3 h1 (Stay.low (by rw [HLF.out]; exact HF'.out) h2 (Nat.le_refl _)) h2.size (by have := HBL.out; omega) (by rw [HLF.out]; omega))
      rw [← HRR.out] at HPL
      generalize wr = w2 at *
      have hma := m_Append_I
      go_wp2_with (first
        | (go_at_call 119; refine HN0.out.mono ?_; rintro e w3 ⟨r, rfl, h1, h2, h3, h4⟩; obtain ⟨A3, c3, rfl⟩ := h1.form; have H1 := hid h1; have H2 := hid h2; clear h1 h2 h3 h4)
        | (go_at_call 120; refine (HPE.out _ _ _ H1.out H2.out).mono ?_; rintro e w4 ⟨r, rfl, h1, h2, h3, h4⟩; obtain ⟨A4, c4, rfl⟩ := h1.form; have K1 := hid h1; have K2 := hid (H2.out.trans h2); clear h1 h2 h3 h4)
        | (go_at_call 221; refine (HPL.out _ _ _ K1.out K2.out).mono ?_; rintro e w5 ⟨r, rfl, h1, h2, h3, h4⟩; obtain ⟨A5, c5, rfl⟩ := h1.form; have M1 := hid h1; have M2 := hid (K2.out.trans h2); clear h1 h2 h3 h4))
      go_ret
      exact ⟨_, rfl, owns_low M1.out HB.out.size, HB.out.trans (M2.out.mono HB.out.size)⟩
end Go.Proofs.YtdlkdiaobbakiaaGreatDoor
