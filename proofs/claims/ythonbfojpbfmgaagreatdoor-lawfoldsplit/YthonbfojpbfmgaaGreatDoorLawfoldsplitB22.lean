/- LawKernel: the comparisons that the law asks, the codecs that always fit. -/
import Derived.Test.YthonbfojpbfmgaaGreatDoorLawfoldsplitB19
import Derived.Test.YthonbfojpbfmgaaGreatDoorLawfoldsplitB20
import Derived.Test.YthonbfojpbfmgaaGreatDoorLawfoldsplitB21
import Derived.Test.YthonbfojpbfmgaaGreatDoorLawfoldsplitB18
import Derived.Test.YthonbfojpbfmgaaGreatDoorLawfoldsplitB17
import Derived.Test.YthonbfojpbfmgaaGreatDoorLawfoldsplitB16
import Derived.Test.YthonbfojpbfmgaaGreatDoorLawfoldsplitB15
import Derived.Test.YthonbfojpbfmgaaGreatDoorLawfoldsplitB7
import Derived.Test.YthonbfojpbfmgaaGreatDoorLawfoldsplitB3
import Derived.Test.YthonbfojpbfmgaaGreatDoorLawfoldsplitB2
import Derived.RangeFuncNested
import Derived.RangeFuncBound
import Derived.RangeFuncCalls
import Derived.RangeFuncLeaves
import Derived.Test.YthonbfojpbfmgaaGreatDoorLawfoldsplitB1
import Derived.Test.YthonbfojpbfmgaaGreatDoorLawfoldsplitB4
import Derived.Shelf.Abstract
import Derived.Shelf.RegionOpen
import Derived.WalkKit
import Derived.OwnWalkIn
import Derived.TacticsInMore
import Derived.LoopNIn
import Derived.LoopIn
import Derived.Test.YthonbfojpbfmgaaGreatDoorLawfoldsplitB10
set_option linter.unusedVariables false
set_option linter.unusedSimpArgs false
set_option linter.unnecessarySimpa false
set_option maxRecDepth 100000
namespace Go.Proofs.YthonbfojpbfmgaaGreatDoor
open Go.RowKit

/-- the codec and the width that the law asks for -/
def fitC (kind : Int) (n : Nat) (pick : Nat) : Int × Int := if pick % 4 = 1 ∧ n ≤ 256 then (2, 0) else if pick % 4 = 2 then (3, 0) else if pick % 4 = 3 ∧ kind = 1 then (4, 64) else (1, 0)
theorem nodup_le {α : Type} : ∀ (ds vs : List α), ds.Nodup → (∀ x ∈ ds, x ∈ vs) → ds.length ≤ vs.length := by
  intro ds
  induction ds with
  | nil => intro vs _ _; simp
  | cons d r ih =>
    intro vs hn hs
    obtain ⟨s, t, rfl⟩ := List.append_of_mem (hs d List.mem_cons_self)
    have hnd := List.nodup_cons.1 hn
    have h := ih (s ++ t) hnd.2 (fun x hx => by
      have h1 := hs x (List.mem_cons_of_mem _ hx)
      rw [List.mem_append, List.mem_cons] at h1
      rw [List.mem_append]
      rcases h1 with h1 | h1 | h1
      · exact .inl h1
      · subst h1; exact absurd hx hnd.1
      · exact .inr h1)
    simp only [List.length_append, List.length_cons] at h ⊢
    omega
theorem fit_ok {kind : Int} {pick : Nat} {cs : List C3} (hk : isKind kind = true) (hl : cs.length ≤ 65536) (hc : cs.all (ofK kind) = true) : encCode kind (fitC kind cs.length pick).1 (fitC kind cs.length pick).2 cs = 0 := by
  have hvl : (valsOf cs).length ≤ cs.length := by unfold valsOf; rw [List.length_map]; exact List.length_filter_le _ _
  have hbad : ∀ c wd, isCodec kind c = true → isWd c wd = true → encBad kind c wd cs = false := fun c wd h1 h2 => by
    unfold encBad
    rw [h1, h2, hc]
    simp; omega
  unfold fitC
  split
  · rename_i h
    have h1 := nodup_le _ _ (diffP_nodup (valsOf cs)) (diffP_mem (valsOf cs))
    unfold encCode
    rw [hbad 2 0 (by unfold isCodec; rw [if_pos (by decide)]; exact hk) (by decide)]
    unfold payOk
    rw [show (2 : Int).toNat = 2 from rfl, if_pos rfl, decide_eq_true (by omega)]
    rfl
  · split
    · unfold encCode
      rw [hbad 3 0 (by unfold isCodec; rw [if_pos (by decide)]; exact hk) (by decide)]
      rfl
    · split
      · rename_i h
        unfold encCode
        rw [hbad 4 64 (by unfold isCodec; rw [if_neg (by decide), h.2]; decide) (by decide)]
        have hf : frameOk 64 (valsOf cs) = true := by
          unfold frameOk okVals
          rw [Bool.and_eq_true]
          constructor
          · unfold okLim lanesF
            rw [List.length_map]
            simp; omega
          · rw [List.all_eq_true]
            intro x hx
            unfold lanesF at hx
            obtain ⟨y, _, rfl⟩ := List.mem_map.1 hx
            exact decide_eq_true (Nat.mod_lt _ (by decide))
        unfold payOk
        rw [show (4 : Int).toNat = 4 from rfl, if_neg (by decide), if_pos rfl, hf]
        rfl
      · unfold encCode
        rw [hbad 1 0 (by unfold isCodec; rw [if_pos (by decide)]; exact hk) (by decide)]
        rfl
end Go.Proofs.YthonbfojpbfmgaaGreatDoor

/- LawKernel: the cells that the law makes. -/
set_option linter.unusedVariables false
set_option linter.unusedSimpArgs false
set_option linter.unnecessarySimpa false
set_option maxRecDepth 100000
namespace Go.Proofs.YthonbfojpbfmgaaGreatDoor
open Go.RowKit

/-- is the cell of that place to be NULL? -/
def nlAt (ns : List Bool) (i : Nat) : Bool := ns.getD i false
def intC (xs : List Int) (ns : List Bool) (n : Nat) : List C3 := (List.range n).map fun i => if nlAt ns i = true then ⟨true, 0, ByteArray.empty⟩ else ⟨false, xs.getD i 0, ByteArray.empty⟩
theorem intC_len (xs : List Int) (ns : List Bool) (n : Nat) : (intC xs ns n).length = n := by simp [intC]
theorem intC_snoc (xs : List Int) (ns : List Bool) (n : Nat) : cells3 (intC xs ns (n + 1)) = cells3 (intC xs ns n) ++ [.bool (nlAt ns n), .int .i64 (if nlAt ns n = true then 0 else xs.getD n 0), .string ByteArray.empty] := by
  unfold intC
  rw [List.range_succ, List.map_append, List.map_cons, List.map_nil, cells3_snoc]
  cases nlAt ns n <;> rfl
theorem Rd.atBool {w : World} {D : Option Addr} {n m cd : Nat} {xs : List Bool} (h : Rd w (.slice D n cd) m 1 (bools xs)) (h0 : 0 < m) : ∃ b o, D = some ⟨b, o, none⟩ ∧ ∀ k, k < xs.length → w.cell? ⟨b, o + k, none⟩ = some (.bool (xs.getD k false)) := by
  obtain ⟨b, o, rfl, hs⟩ := h.at h0
  exact ⟨b, o, rfl, fun k hk => hs k _ (bools_get xs k hk)⟩
set_option maxHeartbeats 8000000 in
theorem intCells_any (u v : Value) (xs : List Int) (ns : List Bool) (w : World) (hu : Rd w u xs.length 1 (i64s xs)) (hv : Rd w v ns.length 1 (bools ns)) :
    Calls Tryz.prog 21 #[u, v] w fun e w' => ∃ r, e = .returned r ∧ w'.ownsRow w.heap.size 42 3 r (min xs.length 65536) (cells3 (intC xs ns (min xs.length 65536))) ∧ Below w.heap.size w w' := by
  have HU := hid hu; have HV := hid hv
  obtain ⟨A1, c1, rfl, hlc1, hcm1, _⟩ := hu.form
  obtain ⟨A2, c2, rfl, hlc2, hcm2, _⟩ := hv.form
  clear hu hv
  unfold maxLen at hcm1 hcm2
  obtain ⟨xn, hxn⟩ : ∃ xn, xs.length = xn := ⟨_, rfl⟩
  obtain ⟨nn, hnn⟩ : ∃ nn, ns.length = nn := ⟨_, rfl⟩
  have HXN := hid hxn; have HNN := hid hnn
  simp only [hxn, hnn] at HU HV hlc1 hlc2 ⊢
  clear hxn hnn
  go_enter Tryz.func21, Tryz.ntmps21
  go_wp2_with fail
  go_loopw [5, 10] (fun s i wr => ∃ t : Nat, t ≤ min xn 65536 ∧ i = .int .i64 t ∧ Hid (wr.ownsRow w.heap.size 42 3 s t (cells3 (intC xs ns t))) ∧ Hid (Below w.heap.size w wr)) (fun _ i _ => xn - (intOf i).toNat)
  case atStart => exact ⟨0, by omega, rfl, hid ⟨by simp [intC, cells3], .inl ⟨rfl, rfl⟩⟩, hid (brefl w)⟩
  case round =>
    obtain ⟨t, ht, rfl, HE, HB⟩ := hrel
    obtain ⟨E1, ce1, rfl⟩ := owns3_form HE.out
    have HSZ := hid HB.out.size
    by_cases hlt : t < xn
    · obtain ⟨b, o, rfl, hs⟩ := (HU.out.mono HB.out).at (by omega)
      have l0 : wr.cell? ⟨b, o + t, none⟩ = some (.int .i64 (xs.getD t 0)) := hs.int t (by rw [HXN.out]; exact hlt)
      have HSN := hid (intC_snoc xs ns t)
      have HNA : Hid (nlAt ns t = ns.getD t false) := hid rfl
      clear hs
      generalize xs.getD t 0 = x at *
      by_cases h6 : t = 65536
      · have hmin : min xn 65536 = t := by omega
        have e6 : ((t : Int) == 65536) = true := by simp; omega
        clear h6
        go_wp2_with fail
        go_ret
        rw [hmin]
        exact ⟨_, rfl, HE.out, HB.out⟩
      · have e6 : ((t : Int) == 65536) = false := by simp; omega
        have hm1 : t + 1 ≤ min xn 65536 := by omega
        by_cases hnl : t < nn
        · obtain ⟨b2, o2, rfl, hs2⟩ := (HV.out.mono HB.out).atBool (by omega)
          have l1 := hs2 t (by rw [HNN.out]; exact hnl)
          rw [← HNA.out] at l1
          clear hs2
          have hi : (t : Int) < (nn : Int) := by omega
          generalize nlAt ns t = q at *
          cases q
          · rw [if_neg (by decide)] at HSN
            go_wp2_with (at_builtin; refine wpList_append3K rfl (.tmp 31) (.tmp 34) rfl 42 [.bool false, .int .i64 0, .string ByteArray.empty] 32 Tryz.underlying23 Tryz.infoCell rfl rfl rfl HE.out HSZ.out (by intro u hu; simp at hu; rcases hu with rfl | rfl | rfl <;> rfl) (by unfold maxLen; omega) (by omega) ?_; intro v6 w6 ho6 hb6 hz6 hk6; have HO6 := hid ho6; have HB6 := hid hb6; clear ho6 hb6 hz6 hk6)
            go_roundw
            case rel => exact ⟨t + 1, hm1, by go_num, hid (by rw [HSN.out]; exact HO6.out), hid (HB.out.trans HB6.out)⟩
            case measure => simp [intOf]; omega
          · rw [if_pos rfl] at HSN
            go_wp2_with (at_builtin; refine wpList_append3K rfl (.tmp 27) (.tmp 29) rfl 42 [.bool false, .int .i64 0, .string ByteArray.empty] 32 Tryz.underlying23 Tryz.infoCell rfl rfl rfl HE.out HSZ.out (by intro u hu; simp at hu; rcases hu with rfl | rfl | rfl <;> rfl) (by unfold maxLen; omega) (by omega) ?_; intro v6 w6 ho6 hb6 hz6 hk6; have HO6 := hid ho6; have HB6 := hid hb6; clear ho6 hb6 hz6 hk6)
            go_roundw
            case rel => exact ⟨t + 1, hm1, by go_num, hid (by rw [HSN.out]; exact HO6.out), hid (HB.out.trans HB6.out)⟩
            case measure => simp [intOf]; omega
        · have hi : ¬ (t : Int) < (nn : Int) := by omega
          have hq : nlAt ns t = false := by rw [HNA.out]; simp [List.getD, List.getElem?_eq_none (show ns.length ≤ t by rw [HNN.out]; omega)]
          rw [hq, if_neg (by decide)] at HSN
          clear HNA hq
          go_wp2_with (at_builtin; refine wpList_append3K rfl (.tmp 31) (.tmp 34) rfl 42 [.bool false, .int .i64 0, .string ByteArray.empty] 32 Tryz.underlying23 Tryz.infoCell rfl rfl rfl HE.out HSZ.out (by intro u hu; simp at hu; rcases hu with rfl | rfl | rfl <;> rfl) (by unfold maxLen; omega) (by omega) ?_; intro v6 w6 ho6 hb6 hz6 hk6; have HO6 := hid ho6; have HB6 := hid hb6; clear ho6 hb6 hz6 hk6)
          go_roundw
          case rel => exact ⟨t + 1, hm1, by go_num, hid (by rw [HSN.out]; exact HO6.out), hid (HB.out.trans HB6.out)⟩
          case measure => simp [intOf]; omega
    · obtain rfl : t = xn := by omega
      have hmin : min t 65536 = t := by omega
      go_wp2_with fail
      go_ret
      rw [hmin]
      exact ⟨_, rfl, HE.out, HB.out⟩
end Go.Proofs.YthonbfojpbfmgaaGreatDoor

/- The law's selected: the bitmap of flags. -/
set_option linter.unusedVariables false
set_option linter.unusedSimpArgs false
set_option linter.unnecessarySimpa false
set_option maxRecDepth 100000
namespace Go.Proofs.YthonbfojpbfmgaaGreatDoor
open Go.RowKit

theorem two_pow_lt {r : Nat} (h : r < 64) : 2 ^ r < 18446744073709551616 := by
  have : 2 ^ r ≤ 2 ^ 63 := Nat.pow_le_pow_right (by omega) (by omega)
  omega
set_option maxHeartbeats 4000000 in
theorem selected_any (v : Value) (fl : List Bool) (n : Nat) (w : World) (hn : n ≤ 65536) (hv : Rd w v fl.length 1 (bools fl)) :
    Calls Tryz.prog 45 #[v, .int .i64 n] w fun e w' => HitAns w w' e n (fun i => fl.getD i false) := by
  unfold HitAns
  have HV := hid (fun (w2 : World) (h : Below w.heap.size w w2) => hv.mono h)
  obtain ⟨A0, c0, rfl, hfc, hcm, _⟩ := hv.form
  clear hv
  obtain ⟨F, hF⟩ : ∃ F : Nat → Bool, (fun i => fl.getD i false) = F := ⟨_, rfl⟩
  have HF : Hid (∀ i, fl.getD i false = F i) := hid (fun i => by rw [← hF])
  have HFO : Hid (∀ i, fl.length ≤ i → F i = false) := hid (fun i hi => by rw [← hF]; simp [List.getD, List.getElem?_eq_none hi])
  rw [hF]
  clear hF
  obtain ⟨k, hk⟩ : ∃ k, fl.length = k := ⟨_, rfl⟩
  have HK := hid hk
  simp only [hk] at HV HFO hfc ⊢
  clear hk
  obtain ⟨m, hm⟩ : ∃ m, (n + 63) / 64 = m := ⟨_, rfl⟩
  have HM := hid hm
  have hm' : ((n : Int) + 63) / 64 = (m : Int) := by omega
  have hwn : IntKind.i64.wrap ((n : Int) + 63) = (n : Int) + 63 := by rw [IntKind.wrap_i64]; omega
  have hm1 : m ≤ 1100 := by omega
  rw [hm]
  clear hm
  have HST := hid (BitsTo.start n F)
  rw [HM.out] at HST
  go_enter Tryz.func45, Tryz.ntmps45
  go_wp2
  refine upon_make 40 (.int .u64 0) 8 Tryz.underlying28 Tryz.info45 rfl m (by omega) (by omega) (by omega) (by unfold maxLen; omega) ?_
  intro w1 hrow hb1 hsz1
  have e : u64s (List.replicate m 0) = List.replicate m (.int .u64 0) := by simp [u64s, u64]
  rw [← e] at hrow
  have HROW := hid hrow; have HB1 := hid hb1
  clear hrow hb1 hsz1 e hm'
  generalize hg : w.heap.size = g at *
  have HG := hid hg
  clear hg
  go_wp2
  go_loopw [6] (fun i wr => ∃ (t : Nat) (zs : List Nat), t ≤ n ∧ i = .int .i64 t ∧ Hid (BitsTo n t F zs) ∧ Hid (Row wr g 40 (u64s zs)) ∧ Hid (Below g w wr)) (fun i _ => n - (intOf i).toNat)
  case atStart => exact ⟨0, _, by omega, rfl, HST, HROW, HB1⟩
  case round =>
    obtain ⟨t, zs, ht, rfl, HZ, HR, HB⟩ := hrel
    have hzl := HZ.out.1
    rw [HM.out] at hzl
    by_cases hlt : t < n
    · by_cases htk : t < k
      · obtain ⟨b, o, rfl, hcells⟩ := (HV.out wr HB.out).atBool (by omega)
        have c0' := hcells t (by rw [HK.out]; exact htk)
        rw [HF.out] at c0'
        have HFt := hid (show F t = F t from rfl)
        obtain ⟨ft, hft⟩ : ∃ ft, F t = ft := ⟨_, rfl⟩
        rw [hft] at c0'
        have HFT := hid hft
        clear hcells hft
        cases ft
        · go_wp2
          go_roundw
          case rel => exact ⟨t + 1, zs, by omega, by go_num, hid (HZ.out.skip (by omega) (fun i h1 h2 => by have e9 : i = t := (by omega); rw [e9]; exact HFT.out)), HR, HB⟩
          case measure => simp [intOf]; omega
        · obtain ⟨d, hd⟩ : ∃ d, t / 64 = d := ⟨_, rfl⟩
          obtain ⟨r, hr⟩ : ∃ r, t % 64 = r := ⟨_, rfl⟩
          have hd' : (t : Int) / 64 = (d : Int) := by omega
          have hr' : (t : Int) % 64 = (r : Int) := by omega
          have hr64 : r < 64 := by omega
          have hdm : d < m := by have := HM.out; omega
          have hcell : wr.cell? ⟨g, d, none⟩ = some (.int .u64 ((zs.getD d 0 : Nat) : Int)) := by rw [HR.out.cell]; exact u64s_get zs d (by omega)
          have hfr := HR.out.frozen d
          have hyd : zs.getD d 0 < 18446744073709551616 := L.getD_lt (w := 64) (fun a ha => by have := HZ.out.2.1 a ha; omega) d
          have HOR := hid (or_u64_bit (zs.getD d 0) r hyd hr64)
          have HBS := hid (bitOf_set zs t (by omega))
          rw [hd, hr] at HBS
          have HS := hid (HR.out.set d (.int .u64 ((zs.getD d 0 ||| 2 ^ r : Nat) : Int)))
          have HLT := hid (show zs.getD d 0 ||| 2 ^ r < 18446744073709551616 from Nat.or_lt_two_pow (n := 64) hyd (two_pow_lt hr64))
          clear hd hr
          generalize hq : zs.getD d 0 = q at *
          clear hq
          go_wp2
          go_roundw
          case rel =>
            refine ⟨t + 1, zs.set d (q ||| 2 ^ r), by omega, by go_num, hid ?_, hid ?_, hid (below_set HB.out _ _ _ (Nat.le_refl _))⟩
            · refine HZ.out.set (by rw [List.length_set]; exact HZ.out.1) (fun x hx => ?_) (fun i => ?_) (by omega) (fun i h1 h2 => by have e9 : i = t := (by omega); rw [e9]; exact HFT.out)
              · rcases List.mem_or_eq_of_mem_set hx with h | h
                · exact HZ.out.2.1 x h
                · rw [h]; exact HLT.out
              · rw [HBS.out]
                congr 1
                by_cases h : i = t
                · subst h; simp
                · rw [decide_eq_false h]; symm; rw [Bool.and_eq_false_iff]
                  by_cases h2 : t ≤ i
                  · right; exact decide_eq_false (by omega)
                  · left; exact decide_eq_false h2
            · rw [HOR.out, ← u64s_set]
              exact HS.out
          case measure => simp [intOf]; omega
      · go_wp2
        go_ret
        exact ⟨_, zs, rfl, (HZ.out.skip (Nat.le_of_lt hlt) (fun i h1 _ => HFO.out i (by omega))).full, HR.out.rd' (by rw [u64s_length]; exact hzl) (by unfold maxLen; omega), by rw [HG.out]; exact HB.out⟩
    · obtain rfl : t = n := by omega
      go_wp2
      go_ret
      exact ⟨_, zs, rfl, HZ.out.full, HR.out.rd' (by rw [u64s_length]; exact hzl) (by unfold maxLen; omega), by rw [HG.out]; exact HB.out⟩
end Go.Proofs.YthonbfojpbfmgaaGreatDoor

/- A loop over a function of which every round goes on: what the function promises, and the loop's law. The loop may stand in such a function itself. -/
set_option maxRecDepth 512
set_option linter.unusedVariables false
set_option linter.unusedSimpArgs false
set_option linter.unnecessarySimpa false
namespace Go.Proofs.YthonbfojpbfmgaaGreatDoor
open Go.RowKit

/-- the blocks of U, and what lay from b on, lie as they lay -/
structure Mid (U : Nat → Prop) (b : Nat) (w w' : World) : Prop where
  low : Below 0 w w'
  keep : ∀ k, k < w.heap.size → (U k ∨ b ≤ k) → w'.heap[k]? = w.heap[k]?
theorem Mid.refl (U : Nat → Prop) (b : Nat) (w : World) : Mid U b w w := ⟨Below.refl _ _, fun _ _ _ => rfl⟩
theorem Mid.trans {U : Nat → Prop} {b : Nat} {u v w : World} (h : Mid U b u v) (k : Mid U b v w) : Mid U b u w :=
  ⟨h.low.trans k.low, fun i hi hb => (k.keep i (Nat.lt_of_lt_of_le hi h.low.size) hb).trans (h.keep i hi hb)⟩
theorem Mid.of_below {U : Nat → Prop} {b : Nat} {w w' : World} (h : Below w.heap.size w w') : Mid U b w w' := ⟨h.mono (Nat.zero_le _), fun k hk _ => h.block k hk⟩
theorem Mid.set {U : Nat → Prop} {b : Nat} (w : World) (p i : Nat) (v : Value) (ha : ¬ U p) (hb : p < b) : Mid U b w (w.setCell ⟨p, i, none⟩ v) :=
  ⟨below_set (Below.refl 0 w) p i v (Nat.zero_le _), fun k _ hk => by
    rw [heap_setCell_other]
    intro e
    simp only at e
    subst e
    rcases hk with hk | hk
    · exact ha hk
    · omega⟩
theorem Mid.sub {U V : Nat → Prop} {b b' : Nat} {w w' : World} (h : Mid U b w w') (hv : ∀ k, V k → U k ∨ b ≤ k) (hb : b ≤ b') : Mid V b' w w' :=
  ⟨h.low, fun k hk hk2 => h.keep k hk (hk2.elim (hv k) (fun h2 => .inr (Nat.le_trans hb h2)))⟩
theorem Mid.below {U : Nat → Prop} {b n : Nat} {w w' : World} (h : Mid U b w w') (hn : n ≤ w.heap.size) (hu : ∀ k, k < n → U k) : Below n w w' :=
  ⟨h.low.os, h.low.tape, h.low.output, h.low.size, fun k hk => h.keep k (by omega) (.inl (hu k hk))⟩
theorem Mid.row {U : Nat → Prop} {b g : Nat} {w w' : World} {e : TypeId} {cs : List Value} (h : Mid U b w w') (hr : Row w g e cs) (hu : U g ∨ b ≤ g) : Row w' g e cs := by
  have := h.keep g hr.lt hu
  unfold Row at *
  rw [this]; exact hr
theorem cell_at {w w' : World} {p i : Nat} (h : w'.heap[p]? = w.heap[p]?) : w'.cell? ⟨p, i, none⟩ = w.cell? ⟨p, i, none⟩ := World.cell?_of_block h
theorem put_below {w : World} {l : Nat} {o o' : Obj} (h : w.heap[l]? = some o) {a : Nat} (ha : a ≤ l) : Below a w (w.putObj l o') := by
  have hl := (Array.getElem?_eq_some_iff.1 h).1
  exact (Below.refl a w).grown (grownBy_putObj' w l o') (by omega) (fun k e => by cases e; exact ha)
theorem put_mid {U : Nat → Prop} {w : World} {l b : Nat} {o o' : Obj} (h : w.heap[l]? = some o) (ha : ¬ U l) (hb : l < b) : Mid U b w (w.putObj l o') :=
  ⟨put_below h (Nat.zero_le _), fun k _ hk => World.putObj_heap_other (by
    intro e
    subst e
    rcases hk with hk | hk
    · exact ha hk
    · omega)⟩
theorem row_set_other {w : World} {g p i : Nat} {e : TypeId} {cs : List Value} {v : Value} (h : Row w g e cs) (hne : g ≠ p) : Row (w.setCell ⟨p, i, none⟩ v) g e cs := by
  unfold Row
  rw [heap_setCell_other _ _ _ _ (by simpa using hne)]; exact h
theorem Mid.drew {U : Nat → Prop} {b : Nat} (w : World) (n : Nat) : Mid U b w (w.drewN n) := ⟨Go.below_drewN (Below.refl _ _) n, fun _ _ _ => rfl⟩
/-- a call of yield asks for no room where no depth is told -/
theorem yield_any {m m' : Nat} {P : Program} {l : Nat} {args : Array Value} {W : World} {R : Ending → World → Prop} (h : YieldAt Fence.wide m P l args W R) : YieldAt Fence.wide m' P l args W R := by
  obtain ⟨fn, tmps, assign, body, h1, h2, h3⟩ := h
  exact ⟨fn, tmps, assign, body, h1, h2, fun c cs _ => h3 c cs (room_wide _)⟩
/-- the function g gives the xs, one a round: of the blocks of U and of what it has laid itself a round turns nothing; it turns nothing that lay when it was called -/
def Gives (P : Program) (g : Nat) (lb : Array Value) {α : Type} (encs : α → Array Value) (U : Nat → Prop) (xs : List α) (w : World) : Prop :=
  ∀ (l : Nat) (J : List α → World → Prop) (W : World), Below w.heap.size w W → (∀ s A B, J s A → Below W.heap.size A B → J s B) →
    (∀ pre x W1, pre ++ [x] <+: xs → J pre W1 → W.heap.size ≤ W1.heap.size → Mid U W.heap.size W W1 → YieldAt Fence.wide 0 P l (encs x) W1 fun e W' => e = .returned (.bool true) ∧ J (pre ++ [x]) W' ∧ Mid U W.heap.size W1 W') →
    J [] W → Calls P g (#[.func (.yield l) #[] #[]] ++ lb) W fun e W' => (∃ v, e = .returned v) ∧ J xs W' ∧ Mid U W.heap.size W W'
theorem range_all {P : Program} {n : Nat} {F : Fence} (hF : F = Fence.wide) {g : Operand} {ps : Array Tmp} {assign body : Code} {Q : Exit → Act → World → Prop} {a : Act} {w : World} {gf : Nat} {lb : Array Value}
    (hg : a.eval g = .func (.func gf) #[] lb) (eg : ∀ args w, (callFunc gf args).run P w = .ok (.enter gf args) w) {α : Type} {encs : α → Array Value} {U : Nat → Prop} {xs : List α} {w0 : World}
    (hseq : Gives P gf lb encs U xs w0) (hb0 : Below w0.heap.size w0 w) (hU : ∀ k, U k → k < w.heap.size) (hps : ∀ x, (encs x).size = ps.size)
    (I : List α → World → Prop) (hI : ∀ s A B, I s A → Below w.heap.size A B → I s B) (h0 : I [] w) (a₁ : α → Act)
    (hassign : ∀ (l : Nat) (x : α) (W : World) (K : Act → World → Prop), K (a₁ x) W →
      assign.wpIn (F.inRound l) n P (Exit.then K (fun _ _ _ => False)) { tmps := (ps.zip (encs x)).foldl (fun t (p, v) => t.setIfInBounds p v) a.tmps, defers := [] } W)
    (hbody : ∀ (l : Nat) (pre : List α) (x : α) (W : World), pre ++ [x] <+: xs → I pre W → w.heap.size < W.heap.size → Mid U w.heap.size w W →
      body.wpIn (F.inRound l) n P (fun e _ W' => e = .normal ∧ I (pre ++ [x]) W' ∧ Mid U w.heap.size W W') (a₁ x) W)
    (hdone : ∀ (W : World), I xs W → Mid U w.heap.size w W → W.heap[w.heap.size]? = some (.deferred (some [])) → Q .normal { a with defers := { target := .collected w.heap.size, args := #[] } :: a.defers } W) :
    (Code.rangeFunc g ps assign body).wpIn F n P Q a w := by
  subst hF
  refine wpIn_rangeFunc fun fn _ => ?_
  obtain ⟨mk, hmk⟩ : ∃ mk : LoopState → Loop, mk = fun st => { state := st, pending := none, fn, tmps := a.tmps, params := ps, assign, body, defers := w.heap.size } := ⟨_, rfl⟩
  have hrun := run_enterLoop_outer (P := P) (w := w) fn a.tmps ps assign body
  rw [show ({ state := .ready, pending := none, fn, tmps := a.tmps, params := ps, assign, body, defers := w.heap.size } : Loop) = mk .ready by rw [hmk]] at hrun
  have hnew : Below w.heap.size w ((w.alloc (.deferred (some []))).alloc (.loop (mk .ready))) := ((Below.refl _ w).alloc (Nat.le_refl _) _).alloc (by simp) _
  have hsz : ((w.alloc (.deferred (some []))).alloc (.loop (mk .ready))).heap.size = w.heap.size + 2 := by simp
  have hrec : ((w.alloc (.deferred (some []))).alloc (.loop (mk .ready))).heap[w.heap.size + 1]? = some (.loop (mk .ready)) := by
    have := World.alloc_heap_new (w.alloc (.deferred (some []))) (.loop (mk .ready))
    rwa [World.size_alloc] at this
  have hdef : ((w.alloc (.deferred (some []))).alloc (.loop (mk .ready))).heap[w.heap.size]? = some (.deferred (some [])) :=
    (Below.heap_alloc _ _ _ (by simp)).trans (World.alloc_heap_new w _)
  generalize (w.alloc (.deferred (some []))).alloc (.loop (mk .ready)) = v at *
  have hnl : ¬ U (w.heap.size + 1) := fun h => by have := hU _ h; omega
  refine ⟨_, _, v, { target := .fn (.func gf) lb, args := #[.func (.yield (w.heap.size + 1)) #[] #[]] }, v, gf, #[.func (.yield (w.heap.size + 1)) #[] #[]] ++ lb, v, hrun, ?_, ?_, ?_, ?_, ?_⟩
  · simp only [resolve, hg]
    simp [go_sem]
  · intro f' _; trivial
  · simp [invoke, go_sem, eg]
  · intro h; simp [Fence.wide] at h
  -- what is known between two rounds of the world W: U's blocks and w's new ones but for the record lie as they lay
  have hlast := hseq (w.heap.size + 1) (fun pre W => (I pre W ∧ W.heap[w.heap.size + 1]? = some (.loop (mk .ready))) ∧ W.heap[w.heap.size]? = some (.deferred (some [])) ∧ Mid U w.heap.size w W ∧ v.heap.size ≤ W.heap.size) v (hb0.trans (hnew.mono hb0.size))
    (fun s A B hs hb => ⟨⟨hI s A B hs.1.1 (hb.mono (by omega)), (hb.block _ (by omega)).trans hs.1.2⟩, (hb.block _ (by omega)).trans hs.2.1, ⟨hs.2.2.1.low.trans (hb.mono (Nat.zero_le _)), fun k hk hk2 => (hb.block k (by omega)).trans (hs.2.2.1.keep k hk hk2)⟩, Nat.le_trans hs.2.2.2 hb.size⟩)
    (by
      rintro pre x W hpre ⟨⟨hi, hl⟩, hd, hbw, _⟩ hsW hbW
      have hy := run_yield (P := P) (args := encs x) hl (by rw [hmk]; exact hps x)
      rw [hmk] at hy
      refine yield_any (m := n) ⟨fn, _, assign, body, hy, roundIn_of_wpIn trivial ?_⟩
      have hlt : w.heap.size + 1 < W.heap.size := by omega
      have hbg : (Instr.beginRound (w.heap.size + 1)).run P W = .ok () (W.putObj (w.heap.size + 1) (.loop (mk .busy))) := by
        have := run_beginRound (P := P) hl (by rw [hmk])
        rw [hmk] at this ⊢; exact this
      refine hassign _ x W _ ⟨_, hbg, ?_⟩
      have hbusy : Below w.heap.size W (W.putObj (w.heap.size + 1) (.loop (mk .busy))) := put_below hl (by omega)
      have hmb : Mid U v.heap.size W (W.putObj (w.heap.size + 1) (.loop (mk .busy))) := put_mid hl hnl (by omega)
      have hmw : Mid U w.heap.size w (W.putObj (w.heap.size + 1) (.loop (mk .busy))) :=
        ⟨hbw.low.trans hmb.low, fun k hk hk2 => (hbusy.block k hk).trans (hbw.keep k hk hk2)⟩
      refine wpIn_mono (hbody _ pre x _ hpre (hI _ _ _ hi hbusy) (by simp; omega) hmw) ?_
      rintro e a3 W3 ⟨rfl, hi3, hm3⟩
      have hs3 := hm3.low.size
      simp only [World.putObj_size] at hs3
      have hl3 : W3.heap[w.heap.size + 1]? = some (.loop (mk .busy)) := (hm3.keep _ (by simp; omega) (.inr (by omega))).trans (World.putObj_heap_same hlt)
      have hend : (Instr.endRound (w.heap.size + 1) none).run P W3 = .ok (.bool true) (W3.putObj (w.heap.size + 1) (.loop (mk .ready))) := by
        have := run_endRound (P := P) none hl3
        rw [hmk] at this ⊢; exact this
      have hput : Below w.heap.size W3 (W3.putObj (w.heap.size + 1) (.loop (mk .ready))) := put_below hl3 (by omega)
      have hmp : Mid U v.heap.size W3 (W3.putObj (w.heap.size + 1) (.loop (mk .ready))) := put_mid hl3 hnl (by omega)
      have hm3' := hmw.trans hm3
      refine ⟨_, _, hend, rfl, ⟨⟨hI _ _ _ hi3 hput, World.putObj_heap_same (by omega)⟩, ?_, ⟨hm3'.low.trans hmp.low, fun k hk hk2 => (hput.block k hk).trans (hm3'.keep k hk hk2)⟩, by simp; omega⟩, (hmb.trans (hm3.sub (fun k h => .inl h) (by omega))).trans hmp⟩
      rw [World.putObj_heap_other (by omega), hm3.keep _ (by simp; omega) (.inr (by omega)), World.putObj_heap_other (by omega)]; exact hd)
    ⟨⟨hI _ _ _ h0 hnew, hrec⟩, hdef, Mid.of_below hnew, Nat.le_refl _⟩
  refine (callsIn_wide.2 hlast).mono ?_
  rintro e W2 ⟨⟨v2, rfl⟩, ⟨⟨hi, hl⟩, hd, hbw, hs2⟩, _⟩
  have hend : (Instr.endLoop (w.heap.size + 1)).run P W2 = .ok none (W2.putObj (w.heap.size + 1) (.loop (mk .exhausted))) := by
    have := run_endLoop (P := P) hl (by rw [hmk]; simp)
    rw [hmk] at this ⊢; exact this
  have hput : Below w.heap.size W2 (W2.putObj (w.heap.size + 1) (.loop (mk .exhausted))) := put_below hl (by omega)
  have hpz : Below 0 W2 (W2.putObj (w.heap.size + 1) (.loop (mk .exhausted))) := put_below hl (Nat.zero_le _)
  refine ⟨none, _, hend, hdone _ (hI _ _ _ hi hput) ⟨hbw.low.trans hpz, fun k hk hk2 => (hput.block k hk).trans (hbw.keep k hk hk2)⟩ ?_⟩
  rw [World.putObj_heap_other (by omega)]; exact hd
end Go.Proofs.YthonbfojpbfmgaaGreatDoor

/- What a selection chooses: the rows that are set and not NULL, and the numbers of their values. -/
set_option linter.unusedVariables false
set_option linter.unusedSimpArgs false
set_option linter.unnecessarySimpa false
set_option maxRecDepth 100000
namespace Go.Proofs.YthonbfojpbfmgaaGreatDoor
open Go.RowKit

/-- the words of the rows that are set and not NULL -/
def cmb (sel nulls : List Nat) : List Nat := (List.range sel.length).map fun k => sel.getD k 0 &&& (L.M64 - nulls.getD k 0)
theorem cmb_len (sel nulls : List Nat) : (cmb sel nulls).length = sel.length := by simp [cmb]
theorem cmb_get (sel nulls : List Nat) (k : Nat) (h : k < sel.length) : (cmb sel nulls).getD k 0 = sel.getD k 0 &&& (L.M64 - nulls.getD k 0) := by simp [cmb, List.getD, h]
theorem cmb_lt (sel nulls : List Nat) : ∀ x ∈ cmb sel nulls, x < 18446744073709551616 := by
  intro x hx
  unfold cmb at hx
  obtain ⟨k, _, rfl⟩ := List.mem_map.1 hx
  exact Nat.lt_of_le_of_lt Nat.and_le_right (by unfold L.M64; omega)
theorem cmb_bit (sel nulls : List Nat) (hn : ∀ x ∈ nulls, x < 18446744073709551616) (r : Nat) : bitOf (cmb sel nulls) r = (bitOf sel r && !bitOf nulls r) := by
  by_cases h : r / 64 < sel.length
  · unfold bitOf
    rw [cmb_get _ _ _ h, Nat.testBit_and, L.M64_sub_testBit _ _ ?_, decide_eq_true (by omega), Bool.true_and]
    by_cases h2 : r / 64 < nulls.length
    · exact hn _ (by simp [List.getD, List.getElem?_eq_getElem h2])
    · simp [List.getD, List.getElem?_eq_none (show nulls.length ≤ r / 64 by omega)]
  · rw [bitOf_out _ _ (by rw [cmb_len]; omega), bitOf_out sel _ (by omega), Bool.false_and]
/-- the numbers of the chosen values -/
def chosenN (sel nulls : List Nat) (m : Nat) : List Nat := (idxN (cmb sel nulls) m).map fun r => r - rankN nulls (r + 1)
theorem idxN_prefix (ws : List Nat) {m m' : Nat} (h : m ≤ m') : idxN ws m <+: idxN ws m' := by
  obtain ⟨d, rfl⟩ := Nat.exists_eq_add_of_le h
  clear h
  induction d with
  | zero => exact List.prefix_refl _
  | succ d ih =>
    rw [← Nat.add_assoc, idxN_snoc]
    exact ih.trans (List.prefix_append _ _)
theorem chosenN_prefix (sel nulls : List Nat) {m m' : Nat} (h : m ≤ m') : chosenN sel nulls m <+: chosenN sel nulls m' := (idxN_prefix _ h).map _
theorem idx_lt (ws : List Nat) (m r : Nat) (h : r ∈ idxN ws m) : r < m ∧ bitOf ws r = true := by
  unfold idxN at h
  rw [List.mem_filter, List.mem_range] at h
  exact h
end Go.Proofs.YthonbfojpbfmgaaGreatDoor

/- Package chunk: chosen goes through the numbers of the values that a selection chooses (integers). -/
set_option linter.unusedVariables false
set_option linter.unusedSimpArgs false
set_option linter.unnecessarySimpa false
set_option maxRecDepth 100000
namespace Go.Proofs.YthonbfojpbfmgaaGreatDoor
open Go.RowKit Go.Shelf
attribute [local go_sem] Oper.semAt_some

set_option maxHeartbeats 8000000 in
theorem chosen_gives_I (wc : World) (g rows codec wd : Nat) (nulls : List Nat) (count : Int) (list : List Int) (ends : List Nat) (base : Int) (lanes : List Nat) (hk : Ck_I wc g rows codec wd nulls count list ends base lanes) (hbm : nulls.length = (rows + 63) / 64) (hnv : ∀ x ∈ nulls, x < 18446744073709551616) (hrr : rows ≤ 65536)
    (sv : Value) (sel : List Nat) (hs : Rd wc sv sel.length 1 (u64s sel)) (hsv : ∀ x ∈ sel, x < 18446744073709551616) (hsl : sel.length = (rows + 63) / 64) (hsr : ∀ r, bitOf sel r = true → r < rows) (hT : Tab wc)
    (w0 : World) (hw : Below wc.heap.size wc w0) (U : Nat → Prop) (hU : ∀ k, k < wc.heap.size → U k) (sb cb : Nat) (hsb : sb < w0.heap.size) (hcb : cb < w0.heap.size) (hUs : U sb) (hUc : U cb) (hcs : w0.cell? ⟨sb, 0, none⟩ = some sv) (hcc : w0.cell? ⟨cb, 0, none⟩ = some (.pointer (some ⟨g, 0, none⟩))) :
    Gives Tryz.prog 170 #[.pointer (some ⟨sb, 0, none⟩), .pointer (some ⟨cb, 0, none⟩)] (fun j : Nat => #[Value.int .i64 (j : Int)]) U (chosenN sel nulls (64 * sel.length)) w0 := by
  intro l J W hW hJ hY h0
  have HTL := hid hT.lt
  have hsz : w0.heap.size ≤ W.heap.size := hW.size
  have HCL : Hid (wc.heap.size ≤ w0.heap.size) := hid hw.size
  -- what is known of a world between two rounds
  have HCH := hid (fun (w1 : World) (hm : Mid U W.heap.size W w1) => (show Below wc.heap.size wc w1 from (hw.trans (hW.mono hw.size)).trans (hm.below (by have := hw.size; have := hW.size; omega) hU)))
  have HCB := hid (fun (w1 : World) (hm : Mid U W.heap.size W w1) => (show w1.cell? ⟨cb, 0, none⟩ = some (.pointer (some ⟨g, 0, none⟩)) from by
    rw [cell_at (hm.keep cb (Nat.lt_of_lt_of_le hcb hW.size) (.inl hUc)), cell_at (hW.block cb hcb)]; exact hcc))
  have hcsW : W.cell? ⟨sb, 0, none⟩ = some sv := by rw [cell_at (hW.block sb hsb)]; exact hcs
  have HNM := hid (fun (w1 : World) (hb : Below wc.heap.size wc w1) (r : Nat) (hr : r < rows) => number_I w1 g rows codec wd nulls count list ends base lanes r (hk.mono hb) hbm hnv hrr hr)
  have HTZ := hid (fun (w1 : World) (hb : Below wc.heap.size wc w1) (z : Nat) (h0 : z ≠ 0) (h : z < 18446744073709551616) => trailingZeros_any z w1 h0 h (hT.mono hb hT.lt))
  have HRS := hid (fun (w1 : World) (hb : Below wc.heap.size wc w1) => hs.mono hb)
  obtain ⟨nu, lv, ev, nv, bef, q1, q2, q3, q4, q5, q6⟩ := hk.ex
  have HRN := hid (fun (w1 : World) (hb : Below wc.heap.size wc w1) => q2.mono hb)
  have HRW := hid (fun (w1 : World) (hb : Below wc.heap.size wc w1) => q1.mono hb)
  have HSV := hid hsv; have HNV := hid hnv; have HSR := hid hsr; have HY := hid hY
  have HBM := hid hbm
  obtain ⟨A1, c1, rfl, hsc1, hsc2, _⟩ := hs.form
  obtain ⟨A2, c2, rfl, _, _, _⟩ := q2.form
  clear hk hs hT hw hU hUs hUc hcc hcs hsv hnv hsr hY q1 q2 q3 q4 q5 q6
  obtain ⟨n, hn⟩ : ∃ n, sel.length = n := ⟨_, rfl⟩
  have HN := hid hn
  rw [hn] at hsl hcsW hsc1 ⊢
  have hnn : nulls.length = n := by rw [hbm, hsl]
  have HSL := hid hsl
  have hn6 : n ≤ 1100 := by omega
  have HNN := hid hnn
  rw [hnn] at HRW
  simp only [hn] at HRS
  clear hn hnn hbm hsl
  refine (callsIn_wide (n := 9)).1 ?_
  refine callsIn_of_wp Tryz.func170 rfl trivial ?_ rfl
  simp only [Tryz.ntmps170, List.size_toArray, List.length_cons, List.length_nil, Nat.reduceAdd, Nat.reduceSub, Array.replicate_succ, Array.replicate_zero, List.push_toArray, List.append_toArray, List.nil_append, List.cons_append]
  gi_wp2
  gi_loopw [8] (fun i wr => ∃ k : Nat, k ≤ n ∧ i = .int .i64 k ∧ Hid (J (chosenN sel nulls (64 * k)) wr) ∧ Hid (Mid U W.heap.size W wr)) (fun i _ => n - (intOf i).toNat)
  case atStart => exact ⟨0, Nat.zero_le _, rfl, hid h0, hid (Mid.refl _ _ _)⟩
  case round =>
    obtain ⟨k, hk, rfl, HJ, HM⟩ := hrel
    have HBC := hid (HCH.out wr HM.out)
    have hcb := HCB.out wr HM.out
    by_cases hlt : k < n
    · obtain ⟨b1, o1, rfl, hs1⟩ := (HRS.out wr HBC.out).at (by omega)
      obtain ⟨b2, o2, rfl, hs2⟩ := (HRN.out wr HBC.out).at (by rw [HNN.out]; omega)
      have x1 := hs1.word k (by rw [HN.out]; exact hlt)
      have x2 := hs2.word k (by rw [HNN.out]; exact hlt)
      have x3 : wr.cell? ⟨g, 3, none⟩ = some (.slice (some ⟨b2, o2, none⟩) n c2) := by rw [(HRW.out wr HBC.out).cell]; rfl
      have hv1 : sel.getD k 0 < 18446744073709551616 := HSV.out _ (by simp [List.getD, List.getElem?_eq_getElem (show k < sel.length by rw [HN.out]; exact hlt)])
      have hv2 : nulls.getD k 0 < 18446744073709551616 := HNV.out _ (by simp [List.getD, List.getElem?_eq_getElem (show k < nulls.length by rw [HNN.out]; exact hlt)])
      have han := u64_andNot_nat' (sel.getD k 0) (nulls.getD k 0) hv1 hv2
      have hcg := cmb_get sel nulls k (by rw [HN.out]; exact hlt)
      have HF := hid (rest_first (cmb sel nulls) k (cmb_lt sel nulls) (by rw [cmb_len, HN.out]; exact hlt))
      rw [hcg] at HF
      clear hs1 hs2 hcg hv1 hv2
      generalize sel.getD k 0 &&& (L.M64 - nulls.getD k 0) = y0 at *
      generalize sel.getD k 0 = x at *
      generalize nulls.getD k 0 = xn at *
      gi_wp2
      gi_loopw [5] (fun y wq => ∃ (t z : Nat), y = .int .u64 z ∧ Hid (Rest (cmb sel nulls) k t z) ∧ Hid (J (chosenN sel nulls (64 * k + t)) wq) ∧ Hid (Mid U W.heap.size W wq)) (fun y _ => (intOf y).toNat)
      case atStart => exact ⟨0, y0, rfl, HF, by simpa using HJ, HM⟩
      case round =>
        obtain ⟨t, z, rfl, HRST, HJ2, HM2⟩ := hrel
        have hz64 : z < 18446744073709551616 := HRST.out.2.1
        by_cases hz : z = 0
        · have hze : ((z : Int) != 0) = false := by simpa using hz
          have HZ := hid hz
          clear hz
          gi_wp2
          go_roundw
          case rel =>
            refine ⟨k + 1, by omega, by go_num, hid ?_, HM2⟩
            have := rest_zero (by rw [← HZ.out]; exact HRST.out)
            unfold chosenN
            rw [this]
            exact HJ2.out
          case measure => simp [intOf]; omega
        · have hze : ((z : Int) != 0) = true := by simpa using hz
          have HNX := hid (rest_next HRST.out hz)
          have hz1 : IntKind.u64.wrap ((z : Int) - 1) = ((z - 1 : Nat) : Int) := by rw [IntKind.wrap_u64]; omega
          have hz2 := u64_and_nat z (z - 1) hz64 (by omega)
          have hc64 := HNX.out.2.2.1
          have hzlt := HNX.out.2.2.2
          have HBQ := hid (HCH.out wr HM2.out)
          have hcq := HCB.out wr HM2.out
          have HTC := hid (fun (w2 : World) (hb : Below wr.heap.size wr w2) => HTZ.out w2 (HBQ.out.trans (hb.mono (Nat.le_trans (Nat.le_trans HCL.out hsz) HM2.out.low.size))) z hz hz64)
          generalize Lib.ctz 64 z = c at *
          have hin : 64 * k + c ∈ idxN (cmb sel nulls) (64 * k + (c + 1)) := by rw [HNX.out.1]; simp
          obtain ⟨_, hbt⟩ := idx_lt _ _ _ hin
          rw [cmb_bit sel nulls HNV.out, Bool.and_eq_true, Bool.not_eq_true'] at hbt
          have hr := HSR.out _ hbt.1
          have HNC := hid (fun (w2 : World) (hb : Below wr.heap.size wr w2) => HNM.out w2 (HBQ.out.trans (hb.mono (Nat.le_trans (Nat.le_trans HCL.out hsz) HM2.out.low.size))) (64 * k + c) hr)
          have hrk : rankN nulls (64 * k + c + 1) = rankN nulls (64 * k + c) := by rw [rankN_succ, hbt.2]; simp
          have hrl : rankN nulls (64 * k + c) ≤ 64 * k + c := by unfold rankN; have := List.length_filter_le (bitOf nulls) (List.range (64 * k + c)); rwa [List.length_range] at this
          obtain ⟨j, hj⟩ : ∃ j, 64 * k + c - rankN nulls (64 * k + c + 1) = j := ⟨_, rfl⟩
          have hji : (((64 * k + c : Nat) : Int) - ((rankN nulls (64 * k + c + 1) : Nat) : Int)) = (j : Int) := by omega
          rw [hji, show ((64 * k + c : Nat) : Int) = 64 * (k : Int) + (c : Int) by omega] at HNC
          have hch : chosenN sel nulls (64 * k + (c + 1)) = chosenN sel nulls (64 * k + t) ++ [j] := by
            unfold chosenN
            rw [HNX.out.1, List.map_append, List.map_cons, List.map_nil, hj]
          have hpre : chosenN sel nulls (64 * k + t) ++ [j] <+: chosenN sel nulls (64 * sel.length) := by rw [← hch, HN.out]; exact chosenN_prefix _ _ (by omega)
          have HYR := hid (fun (w2 : World) (hb : Below wr.heap.size wr w2) => HY.out _ j w2 hpre (hJ _ _ _ HJ2.out (hb.mono HM2.out.low.size)) (Nat.le_trans HM2.out.low.size hb.size) (HM2.out.trans (Mid.of_below hb)))
          have HCHN := hid hch
          clear hin hbt hr hrk hrl hj hji hpre hch hz
          have hmx : Tryz.prog.follows .mixedOrders = true := by kernel_rfl
          have hw1 : IntKind.i64.wrap (64 * (k : Int)) = 64 * (k : Int) := by rw [IntKind.wrap_i64]; omega
          have hw2 : IntKind.i64.wrap (64 * (k : Int) + (c : Int)) = 64 * (k : Int) + (c : Int) := by rw [IntKind.wrap_i64]; omega
          gi_wp2
          gi_region_with_o (first
            | (refine ⟨trivial, ?_⟩; gi_at_call 148; refine (callsIn_wide.2 (HTC.out _ (bdrew (brefl wr) 1))).mono ?_; rintro e w3 ⟨rfl, hw3⟩; subst hw3)
            | (refine ⟨trivial, ?_⟩; gi_at_call 171; refine (callsIn_wide.2 (HNC.out _ (bdrew (brefl wr) 1))).mono ?_; rintro e w4 ⟨rfl, hb4⟩; have HB4 : Hid (Below wr.heap.size wr w4) := hid (bthen (bdrew (brefl wr) 1) hb4); obtain ⟨fn, tmps, assign, body, hy, hR⟩ := yield_any (m' := 8) (HYR.out w4 HB4.out); clear hb4)
            | (refine hR.mono ?_; rintro e w5 ⟨rfl, hj5, hm5⟩; have HJ5 := hid hj5; have HM5 := hid (HM2.out.trans ((Mid.of_below HB4.out).trans hm5)); clear hj5 hm5))
          all_goals gi_wp2
          all_goals go_roundw
          all_goals first
            | exact ⟨c + 1, _, rfl, hid HNX.out.2.1, hid (by rw [HCHN.out]; exact HJ5.out), HM5⟩
            | (simp [intOf]; omega)
    · obtain rfl : k = n := by omega
      gi_wp2
      go_end0
      exact ⟨⟨_, rfl⟩, HJ.out, HM.out⟩
end Go.Proofs.YthonbfojpbfmgaaGreatDoor

/- Counts of what was chosen, by place. -/
set_option linter.unusedVariables false
set_option linter.unusedSimpArgs false
set_option linter.unnecessarySimpa false
set_option maxRecDepth 100000
namespace Go.Proofs.YthonbfojpbfmgaaGreatDoor
open Go.RowKit

/-- how many of js have their place at k -/
def cntOfF (f : Nat → Nat) (js : List Nat) (k : Nat) : Nat := js.countP fun j => decide (f j = k)
def cntsL (f : Nat → Nat) (js : List Nat) (m : Nat) : List Nat := (List.range m).map (cntOfF f js)
theorem cntsL_len (f : Nat → Nat) (js : List Nat) (m : Nat) : (cntsL f js m).length = m := by simp [cntsL]
theorem cntsL_get (f : Nat → Nat) (js : List Nat) (m k : Nat) (h : k < m) : (cntsL f js m).getD k 0 = cntOfF f js k := by simp [cntsL, List.getD, h]
theorem cntOfF_le (f : Nat → Nat) (js : List Nat) (k : Nat) : cntOfF f js k ≤ js.length := List.countP_le_length
theorem cntsL_nil (f : Nat → Nat) (m : Nat) : ints (cntsL f [] m) = List.replicate m (.int .i64 0) := by
  apply List.ext_getElem
  · simp [ints, cntsL]
  · intro i h1 h2
    simp [ints, cntsL, cntOfF]
theorem cntsL_snoc (f : Nat → Nat) (js : List Nat) (m j : Nat) (h : f j < m) : ints (cntsL f (js ++ [j]) m) = (ints (cntsL f js m)).set (f j) (.int .i64 ((cntOfF f js (f j) : Nat) + 1 : Int)) := by
  apply List.ext_getElem
  · simp [ints, cntsL]
  · intro i h1 h2
    simp only [ints, cntsL, List.getElem_map, List.getElem_range, List.getElem_set]
    unfold cntOfF
    rw [List.countP_append]
    by_cases hi : f j = i
    · subst hi; simp
    · simp [hi]
theorem ints_cell (l : List Nat) (k : Nat) (h : k < l.length) : (ints l)[k]? = some (.int .i64 (l.getD k 0 : Nat)) := by
  simp [ints, List.getD, List.getElem?_eq_getElem h]
theorem mem_prefix {α : Type} {pre xs : List α} {x : α} (h : pre ++ [x] <+: xs) : x ∈ xs ∧ pre.length < xs.length := by
  obtain ⟨t, rfl⟩ := h
  constructor
  · simp
  · simp
theorem chosenN_len (sel nulls : List Nat) (m : Nat) : (chosenN sel nulls m).length ≤ m := by
  unfold chosenN idxN
  rw [List.length_map]
  have := List.length_filter_le (bitOf (cmb sel nulls)) (List.range m)
  rwa [List.length_range] at this
/-- where the pointer stands behind the values of pre -/
def runF (f : Nat → Nat) (pre : List Nat) : Nat := pre.foldl (fun _ y => f y) 0
theorem runF_snoc (f : Nat → Nat) (pre : List Nat) (x : Nat) : runF f (pre ++ [x]) = f x := by simp [runF]
theorem runF_le (f : Nat → Nat) (hf : ∀ a b, a ≤ b → f a ≤ f b) (x : Nat) : ∀ (pre : List Nat), (∀ y ∈ pre, y ≤ x) → runF f pre ≤ f x := by
  intro pre h
  unfold runF
  have key : ∀ (l : List Nat) (a : Nat), a ≤ f x → (∀ y ∈ l, y ≤ x) → l.foldl (fun _ y => f y) a ≤ f x := by
    intro l
    induction l with
    | nil => intro a ha _; exact ha
    | cons y r ih => intro a _ hl; exact ih (f y) (hf _ _ (hl y (List.mem_cons_self ..))) (fun z hz => hl z (List.mem_cons_of_mem _ hz))
  exact key pre 0 (Nat.zero_le _) h
theorem rank_step (ws : List Nat) (i j : Nat) (h : i ≤ j) : i - rankN ws (i + 1) ≤ j - rankN ws (j + 1) := by
  obtain ⟨d, rfl⟩ := Nat.exists_eq_add_of_le h
  clear h
  induction d with
  | zero => exact Nat.le_refl _
  | succ d ih =>
    refine Nat.le_trans ih ?_
    have h1 := rankN_succ ws (i + d + 1)
    rw [show i + (d + 1) = i + d + 1 by omega]
    rw [h1]
    cases bitOf ws (i + d + 1) <;> simp <;> omega
theorem idxN_asc (ws : List Nat) (m : Nat) : (idxN ws m).Pairwise (· < ·) := by
  unfold idxN
  exact List.Pairwise.filter _ List.pairwise_lt_range
theorem chosenN_asc (sel nulls : List Nat) (m : Nat) : (chosenN sel nulls m).Pairwise (· ≤ ·) := by
  unfold chosenN
  rw [List.pairwise_map]
  exact (idxN_asc _ _).imp (fun h => rank_step _ _ _ (Nat.le_of_lt h))
theorem asc_prefix {js pre : List Nat} {x : Nat} (h : js.Pairwise (· ≤ ·)) (hp : pre ++ [x] <+: js) : ∀ y ∈ pre, y ≤ x := by
  obtain ⟨t, rfl⟩ := hp
  have h1 := (List.pairwise_append.1 h).1
  intro y hy
  exact (List.pairwise_append.1 h1).2.2 y hy x (by simp)
/-- the values that were counted, each with its count -/
def shL {α : Type} (d : α) (vals : List α) (cs : List Nat) (k : Nat) : List (α × Nat) := ((List.range k).filter fun i => decide (0 < cs.getD i 0)).map fun i => (vals.getD i d, cs.getD i 0)
theorem shL_succ {α : Type} (d : α) (vals : List α) (cs : List Nat) (k : Nat) : shL d vals cs (k + 1) = if 0 < cs.getD k 0 then shL d vals cs k ++ [(vals.getD k d, cs.getD k 0)] else shL d vals cs k := by
  unfold shL
  rw [List.range_succ, List.filter_append, List.map_append]
  have key : ∀ q : Bool, ((List.filter (fun _ => q) [k]).map fun i => (vals.getD i d, cs.getD i 0)) = if q = true then [(vals.getD k d, cs.getD k 0)] else [] := by intro q; cases q <;> rfl
  have e : List.filter (fun i => decide (0 < cs.getD i 0)) [k] = List.filter (fun _ => decide (0 < cs.getD k 0)) [k] := List.filter_congr (fun x hx => by rw [List.mem_singleton] at hx; subst hx; rfl)
  rw [e, key]
  by_cases h : 0 < cs.getD k 0
  · rw [if_pos h, if_pos (decide_eq_true h)]
  · rw [if_neg h, if_neg (by rw [decide_eq_true_eq]; exact h), List.append_nil]
theorem shL_prefix {α : Type} (d : α) (vals : List α) (cs : List Nat) {k k' : Nat} (h : k ≤ k') : shL d vals cs k <+: shL d vals cs k' := by
  obtain ⟨e, rfl⟩ := Nat.exists_eq_add_of_le h
  clear h
  induction e with
  | zero => exact List.prefix_refl _
  | succ e ih =>
    rw [← Nat.add_assoc, shL_succ]
    split
    · exact ih.trans (List.prefix_append _ _)
    · exact ih
end Go.Proofs.YthonbfojpbfmgaaGreatDoor
