/- Package kernel: filter of one kind (integers). -/
import Derived.Test.YthonbfojpbfmgaaGreatDoorLawfoldsplitB25
import Derived.Test.YthonbfojpbfmgaaGreatDoorLawfoldsplitB20
import Derived.Test.YthonbfojpbfmgaaGreatDoorLawfoldsplitB11
import Derived.Test.YthonbfojpbfmgaaGreatDoorLawfoldsplitB19
import Derived.Test.YthonbfojpbfmgaaGreatDoorLawfoldsplitB15
import Derived.Laws.StructEq
import Derived.WalkLawsBesides
import Derived.Laws.Externs
import Derived.Laws.Cover1
import Derived.Deep.CutRange
set_option linter.unusedVariables false
set_option linter.unusedSimpArgs false
set_option linter.unnecessarySimpa false
set_option maxRecDepth 100000
namespace Go.Proofs.YthonbfojpbfmgaaGreatDoor
open Go.RowKit

/-- what a row holds that is not NULL -/
def rowV_I (rows : Nat) (xs : List Nat) (r : Nat) : Int := vAt_I rows xs (r - rankN (headOf rows xs).nulls (r + 1))

/-- what a body that is valid has, for a filter -/
structure FilD_I (rows : Nat) (xs : List Nat) : Prop where
  pk : okPack 1 rows (headOf rows xs).nulls = true
  hd : HitD_I (headOf rows xs).codec (headOf rows xs).wd (cntOf rows (headOf rows xs).nulls) (lkOut_I rows xs).list (lkOut_I rows xs).ends (lkBase_I rows xs) (lkOut_I rows xs).lanes
end Go.Proofs.YthonbfojpbfmgaaGreatDoor

/- Parts: Merge and Total, in the code and in the plain answer. -/
set_option linter.unusedVariables false
set_option linter.unusedSimpArgs false
set_option linter.unnecessarySimpa false
set_option maxRecDepth 200000
namespace Go.Proofs.YthonbfojpbfmgaaGreatDoor
open Go.RowKit

def ltB (a b : ByteArray) : Bool := Op.bytesLess a.toList b.toList
def lessC (a b : C3) : Bool := decide (a.i < b.i) || (decide (a.i = b.i) && ltB a.s b.s)
set_option maxHeartbeats 1000000 in
theorem Less_C (a b : C3) (w : World) : Calls Tryz.prog 47 #[a.v, b.v] w fun e w' => e = .returned (.bool (lessC a b)) ∧ Below w.heap.size w w' := by
  obtain ⟨an, ai, sa⟩ := a
  obtain ⟨bn, bi, sb⟩ := b
  unfold C3.v lessC
  simp only
  obtain ⟨lt, hlt⟩ : ∃ lt, Op.bytesLess sa.toList sb.toList = lt := ⟨_, rfl⟩
  have hl : ltB sa sb = lt := hlt
  rw [hl]
  have hb : Below w.heap.size w ((w.alloc (.cells #[.bool an, .int .i64 ai, .string sa] 42)).alloc (.cells #[.bool bn, .int .i64 bi, .string sb] 42)) := ((brefl w).alloc (Nat.le_refl _) _).alloc (by simp) _
  have HB := hid hb
  clear hb hl
  go_enter Tryz.func47, Tryz.ntmps47
  by_cases h1 : ai < bi
  · go_wp2
    go_ret
    exact ⟨ret_bool (by simp [h1]), HB.out⟩
  · by_cases h2 : ai = bi
    · subst h2
      go_wp2
      go_ret
      exact ⟨ret_bool (by simp), HB.out⟩
    · go_wp2
      go_ret
      exact ⟨ret_bool (by simp [h1, h2]), HB.out⟩
/-- what is told of the values of a column: how many, the sum's two words, the smallest and the greatest -/
structure P9 where
  ct : Int
  hi : Int
  lo : Nat
  mn : C3
  mx : C3
def P9.v (p : P9) : Value := .agg #[.int .i64 p.ct, .int .i64 p.hi, .int .u64 p.lo, .bool p.mn.n, .int .i64 p.mn.i, .string p.mn.s, .bool p.mx.n, .int .i64 p.mx.i, .string p.mx.s]
end Go.Proofs.YthonbfojpbfmgaaGreatDoor

/- Parts: Merge of the code. -/
set_option linter.unusedVariables false
set_option linter.unusedSimpArgs false
set_option linter.unnecessarySimpa false
set_option maxRecDepth 200000
namespace Go.Proofs.YthonbfojpbfmgaaGreatDoor
open Go.RowKit

/-- the smaller, the greater of two Parts' cells -/
def pickMn (a b : P9) : C3 := if a.ct = 0 then b.mn else if b.ct = 0 then a.mn else if lessC b.mn a.mn = true then b.mn else a.mn
def pickMx (a b : P9) : C3 := if a.ct = 0 then b.mx else if b.ct = 0 then a.mx else if lessC a.mx b.mx = true then b.mx else a.mx
def mergeP (a b : P9) : P9 := ⟨wrap64 (a.ct + b.ct), wrap64 (a.hi + b.hi + ((a.lo + b.lo) / 18446744073709551616 : Nat)), (a.lo + b.lo) % 18446744073709551616, pickMn a b, pickMx a b⟩
theorem wrap_wrap (x c : Int) : wrap64 (wrap64 x + c) = wrap64 (x + c) := by unfold wrap64; omega
def P9.vs (p : P9) : List Value := [.int .i64 p.ct, .int .i64 p.hi, .int .u64 p.lo, .bool p.mn.n, .int .i64 p.mn.i, .string p.mn.s, .bool p.mx.n, .int .i64 p.mx.i, .string p.mx.s]
theorem row9 {w : World} {g : Nat} {e : TypeId} {a0 a1 a2 a3 a4 a5 a6 a7 a8 : Value} (h : Row w g e [a0, a1, a2, a3, a4, a5, a6, a7, a8]) :
    w.cell? ⟨g, 0, none⟩ = some a0 ∧ w.cell? ⟨g, 1, none⟩ = some a1 ∧ w.cell? ⟨g, 2, none⟩ = some a2 ∧ w.cell? ⟨g, 3, none⟩ = some a3 ∧ w.cell? ⟨g, 4, none⟩ = some a4 ∧ w.cell? ⟨g, 5, none⟩ = some a5 ∧ w.cell? ⟨g, 6, none⟩ = some a6 ∧ w.cell? ⟨g, 7, none⟩ = some a7 ∧ w.cell? ⟨g, 8, none⟩ = some a8 :=
  ⟨by rw [h.cell]; rfl, by rw [h.cell]; rfl, by rw [h.cell]; rfl, by rw [h.cell]; rfl, by rw [h.cell]; rfl, by rw [h.cell]; rfl, by rw [h.cell]; rfl, by rw [h.cell]; rfl, by rw [h.cell]; rfl⟩
theorem rows4 {w : World} {A B Z C : Array Value} {eA eB eZ eC : TypeId} :
    Row ((((w.alloc (.cells A eA)).alloc (.cells B eB)).alloc (.cells Z eZ)).alloc (.cells C eC)) w.heap.size eA A.toList ∧ Row ((((w.alloc (.cells A eA)).alloc (.cells B eB)).alloc (.cells Z eZ)).alloc (.cells C eC)) (w.heap.size + 1) eB B.toList ∧ Row ((((w.alloc (.cells A eA)).alloc (.cells B eB)).alloc (.cells Z eZ)).alloc (.cells C eC)) (w.heap.size + 1 + 1) eZ Z.toList ∧ Row ((((w.alloc (.cells A eA)).alloc (.cells B eB)).alloc (.cells Z eZ)).alloc (.cells C eC)) (w.heap.size + 1 + 1 + 1) eC C.toList ∧
      Below w.heap.size w ((((w.alloc (.cells A eA)).alloc (.cells B eB)).alloc (.cells Z eZ)).alloc (.cells C eC)) ∧ ((((w.alloc (.cells A eA)).alloc (.cells B eB)).alloc (.cells Z eZ)).alloc (.cells C eC)).heap.size = w.heap.size + 1 + 1 + 1 + 1 := by
  have nw : ∀ (u : World) (D : Array Value) (e : TypeId), Row (u.alloc (.cells D e)) u.heap.size e D.toList := fun u D e => by unfold Row; rw [heap_alloc_new]
  have sz : ∀ (u : World) (o : Obj), (u.alloc o).heap.size = u.heap.size + 1 := fun u o => by simp
  have r1 := nw w A eA
  have r2 := nw (w.alloc (.cells A eA)) B eB
  have r3 := nw ((w.alloc (.cells A eA)).alloc (.cells B eB)) Z eZ
  have r4 := nw (((w.alloc (.cells A eA)).alloc (.cells B eB)).alloc (.cells Z eZ)) C eC
  rw [sz] at r2
  rw [sz, sz] at r3
  rw [sz, sz, sz] at r4
  have bl : ∀ (u : World) (o : Obj), Below u.heap.size u (u.alloc o) := fun u o => (Below.refl _ _).alloc (Nat.le_refl _) _
  refine ⟨((r1.mono (bl _ _)).mono (bl _ _)).mono (bl _ _), (r2.mono (bl _ _)).mono (bl _ _), r3.mono (bl _ _), r4, ?_, by rw [sz, sz, sz, sz]⟩
  exact Below.then' (Below.then' (Below.then' (bl _ _) (bl _ _) (by simp)) (bl _ _) (by simp; omega)) (bl _ _) (by simp; omega)
set_option maxHeartbeats 2000000 in
theorem Merge_any (a b : P9) (w : World) (ha : a.lo < 18446744073709551616) (hb : b.lo < 18446744073709551616) : Calls Tryz.prog 23 #[a.v, b.v] w fun e w' => e = .returned (mergeP a b).v ∧ Below w.heap.size w w' := by
  have hadd : ∀ w2 : World, (callFunc 46 #[.int .u64 a.lo, .int .u64 b.lo, .int .u64 0]).run Tryz.prog w2 = .ok (.value (.tuple #[.int .u64 ((a.lo + b.lo) % 18446744073709551616 : Nat), .int .u64 ((a.lo + b.lo) / 18446744073709551616 : Nat)])) w2 := fun w2 => by
    rw [run_callFunc_extern (e := add64Entry) Tryz.func46 (by kernel_rfl) (by kernel_rfl) (by kernel_rfl) (by rfl), run_add64 _ _ 0 (by omega) (by omega) (by omega) (by omega)]
    simp [Result.andThen]
  have HV : Hid ((mergeP a b).v = .agg #[.int .i64 (wrap64 (a.ct + b.ct)), .int .i64 (wrap64 (a.hi + b.hi + ((a.lo + b.lo) / 18446744073709551616 : Nat))), .int .u64 ((a.lo + b.lo) % 18446744073709551616 : Nat), .bool (pickMn a b).n, .int .i64 (pickMn a b).i, .string (pickMn a b).s, .bool (pickMx a b).n, .int .i64 (pickMx a b).i, .string (pickMx a b).s]) := hid rfl
  have HMN : Hid (pickMn a b = if a.ct = 0 then b.mn else if b.ct = 0 then a.mn else if lessC b.mn a.mn = true then b.mn else a.mn) := hid rfl
  have HMX : Hid (pickMx a b = if a.ct = 0 then b.mx else if b.ct = 0 then a.mx else if lessC a.mx b.mx = true then b.mx else a.mx) := hid rfl
  have HL1 := hid (fun w2 : World => Less_C b.mn a.mn w2)
  have HL2 := hid (fun w2 : World => Less_C a.mx b.mx w2)
  generalize pickMn a b = rmn at *
  generalize pickMx a b = rmx at *
  generalize lessC b.mn a.mn = l1 at *
  generalize lessC a.mx b.mx = l2 at *
  rw [HV.out]
  clear HV
  obtain ⟨act, ahi, alo, ⟨amnn, amni, amns⟩, ⟨amxn, amxi, amxs⟩⟩ := a
  obtain ⟨bct, bhi, blo, ⟨bmnn, bmni, bmns⟩, ⟨bmxn, bmxi, bmxs⟩⟩ := b
  unfold P9.v C3.v at *
  simp only at *
  have hc : (alo + blo) / 18446744073709551616 ≤ 1 := by omega
  generalize hlo : (alo + blo) % 18446744073709551616 = lo at *
  generalize hcy : (alo + blo) / 18446744073709551616 = cy at *
  have hww := wrap_wrap (ahi + bhi) (cy : Int)
  generalize wrap64 (ahi + bhi + (cy : Int)) = rhi at *
  generalize hrc : wrap64 (act + bct) = rct at *
  clear hlo hcy ha hb
  by_cases h0 : act = 0
  · rw [if_pos h0] at HMN HMX
    rw [HMN.out, HMX.out]
    clear HL1 HL2 HMN HMX
    go_enter Tryz.func23, Tryz.ntmps23
    go_wp2_with fail
    refine bodyPost_ret (v := .agg #[.int .i64 rct, .int .i64 rhi, .int .u64 lo, .bool bmnn, .int .i64 bmni, .string bmns, .bool bmxn, .int .i64 bmxi, .string bmxs]) ?_ rfl ⟨rfl, rows4.2.2.2.2.1⟩
    simp [results, Tryz.results23, go_sem]
    rw [← hrc, h0, Int.zero_add]
  · rw [if_neg h0] at HMN HMX
    by_cases h1 : bct = 0
    · rw [if_pos h1] at HMN HMX
      rw [HMN.out, HMX.out]
      clear HL1 HL2 HMN HMX
      go_enter Tryz.func23, Tryz.ntmps23
      go_wp2_with fail
      refine bodyPost_ret (v := .agg #[.int .i64 rct, .int .i64 rhi, .int .u64 lo, .bool amnn, .int .i64 amni, .string amns, .bool amxn, .int .i64 amxi, .string amxs]) ?_ rfl ⟨rfl, rows4.2.2.2.2.1⟩
      simp [results, Tryz.results23, go_sem]
      rw [← hrc, h1, Int.add_zero]
    · rw [if_neg h1] at HMN HMX
      obtain ⟨ra, rb, rz, rc, hbw, hsz⟩ := rows4 (w := w) (A := #[.int .i64 act, .int .i64 ahi, .int .u64 alo, .bool amnn, .int .i64 amni, .string amns, .bool amxn, .int .i64 amxi, .string amxs]) (B := #[.int .i64 bct, .int .i64 bhi, .int .u64 blo, .bool bmnn, .int .i64 bmni, .string bmns, .bool bmxn, .int .i64 bmxi, .string bmxs])
        (Z := #[.int .i64 0, .int .i64 0, .int .u64 0, .bool false, .int .i64 0, .string ⟨#[]⟩, .bool false, .int .i64 0, .string ⟨#[]⟩]) (C := #[.int .i64 rct, .int .i64 rhi, .int .u64 lo, .bool amnn, .int .i64 amni, .string amns, .bool amxn, .int .i64 amxi, .string amxs]) (eA := 44) (eB := 44) (eZ := 44) (eC := 44)
      have HA := hid ra; have HB := hid rb; have HC := hid rc; have HZ := hid rz; have HBW := hid hbw; have HSZ := hid hsz
      clear ra rb rz rc hbw hsz
      have g0 : (act == 0) = false := by simp [h0]
      have g1 : (bct != 0) = true := by simp [h1]
      go_enter Tryz.func23, Tryz.ntmps23
      go_upto_if 49 with (go_at_call 47; refine (HL1.out _).mono ?_; rintro e w1 ⟨rfl, hb1⟩; have ra1 := HA.out.mono hb1; have rb1 := HB.out.mono hb1; have rc1 := HC.out.mono hb1; have HRZ := hid (HZ.out.mono hb1); have HB1 : Hid (Below w.heap.size w w1) := hid (Below.then' HBW.out hb1 HBW.out.size); have HZ1 : Hid (w.heap.size + 1 + 1 + 1 < w1.heap.size) := hid (by have := hb1.size; have := HSZ.out; omega); have HRA := hid ra1; have HRB := hid rb1; have HRC := hid rc1; clear ra1 rb1 rc1 hb1 HA HB HC HZ HBW HSZ HL1)
      go_cut [] from 50 (fun wc => Hid (Row wc w.heap.size 44 [.int .i64 act, .int .i64 ahi, .int .u64 alo, .bool amnn, .int .i64 amni, .string amns, .bool amxn, .int .i64 amxi, .string amxs]) ∧ Hid (Row wc (w.heap.size + 1) 44 [.int .i64 bct, .int .i64 bhi, .int .u64 blo, .bool bmnn, .int .i64 bmni, .string bmns, .bool bmxn, .int .i64 bmxi, .string bmxs]) ∧ Hid (Row wc (w.heap.size + 1 + 1) 44 [.int .i64 0, .int .i64 0, .int .u64 0, .bool false, .int .i64 0, .string ⟨#[]⟩, .bool false, .int .i64 0, .string ⟨#[]⟩]) ∧ Hid (Row wc (w.heap.size + 1 + 1 + 1) 44 [.int .i64 rct, .int .i64 rhi, .int .u64 lo, .bool rmn.n, .int .i64 rmn.i, .string rmn.s, .bool amxn, .int .i64 amxi, .string amxs]) ∧ Hid (Below w.heap.size w wc) ∧ Hid (w.heap.size + 1 + 1 + 1 < wc.heap.size))
      case first =>
        cases l1
        · rw [if_neg (by simp)] at HMN
          go_wp2_with fail
          go_meet
          rw [HMN.out]
          exact ⟨HRA, HRB, HRZ, HRC, HB1, HZ1⟩
        · rw [if_pos rfl] at HMN
          obtain ⟨b0, b1, b2, b3, b4, b5, b6, b7, b8⟩ := row9 HRB.out
          obtain ⟨c0, c1, c2, c3, c4, c5, c6, c7, c8⟩ := row9 HRC.out
          have f3 := HRC.out.frozen 3
          have f4 := HRC.out.frozen 4
          have f5 := HRC.out.frozen 5
          go_wp2_with fail
          go_meet
          rw [HMN.out]
          exact ⟨hid (((HRA.out.other _ (by simp; omega)).other _ (by simp; omega)).other _ (by simp; omega)), hid (((HRB.out.other _ (by simp)).other _ (by simp)).other _ (by simp)), hid (((HRZ.out.other _ (by simp)).other _ (by simp)).other _ (by simp)), hid (((HRC.out.set 3 (.bool bmnn)).set 4 (.int .i64 bmni)).set 5 (.string bmns)), hid (below_set (below_set (below_set HB1.out _ _ _ (by omega)) _ _ _ (by omega)) _ _ _ (by omega)), hid (by simpa [World.setCell] using HZ1.out)⟩
      case rest =>
        obtain ⟨HRA2, HRB2, HRZ2, HRC2, HB2, HZ2⟩ := hcut
        clear HRA HRB HRC HRZ HB1 HZ1 HMN hadd
        obtain ⟨a0, a1, a2, a3, a4, a5, a6, a7, a8⟩ := row9 HRA2.out
        obtain ⟨b0, b1, b2, b3, b4, b5, b6, b7, b8⟩ := row9 HRB2.out
        go_upto_if 67 with (go_at_call 47; refine (HL2.out _).mono ?_; rintro e w3 ⟨rfl, hb3⟩; have HRB3 := hid (HRB2.out.mono hb3); have HRC3 := hid (HRC2.out.mono hb3); have HRZ3 := hid (HRZ2.out.mono hb3); have HB3 : Hid (Below w.heap.size w w3) := hid (Below.then' HB2.out hb3 HB2.out.size); have HZ3 : Hid (w.heap.size + 1 + 1 + 1 < w3.heap.size) := hid (Nat.lt_of_lt_of_le HZ2.out hb3.size); clear hb3 HL2)
        obtain ⟨rn, ri, rs⟩ := rmn
        clear a0 a1 a2 a3 a4 a5 a6 a7 a8 b0 b1 b2 b3 b4 b5 b6 b7 b8 HRA2 HRB2 HRC2 HRZ2 HB2 HZ2
        obtain ⟨b0, b1, b2, b3, b4, b5, b6, b7, b8⟩ := row9 HRB3.out
        obtain ⟨c0, c1, c2, c3, c4, c5, c6, c7, c8⟩ := row9 HRC3.out
        obtain ⟨z0, z1, z2, z3, z4, z5, z6, z7, z8⟩ := row9 HRZ3.out
        have f6 := HRC3.out.frozen 6
        have f7 := HRC3.out.frozen 7
        have f8 := HRC3.out.frozen 8
        have y0 := HRZ3.out.frozen 0
        have y1 := HRZ3.out.frozen 1
        have y2 := HRZ3.out.frozen 2
        have y3 := HRZ3.out.frozen 3
        have y4 := HRZ3.out.frozen 4
        have y5 := HRZ3.out.frozen 5
        have y6 := HRZ3.out.frozen 6
        have y7 := HRZ3.out.frozen 7
        have y8 := HRZ3.out.frozen 8
        simp only at c0 c1 c2 c3 c4 c5 c6 c7 c8
        cases l2
        · rw [if_neg (by simp)] at HMX
          go_wp2_with fail
          rw [HMX.out]
          have hrow := ((((((((HRZ3.out.set 0 (.int .i64 rct)).set 1 (.int .i64 rhi)).set 2 (.int .u64 lo)).set 3 (.bool rn)).set 4 (.int .i64 ri)).set 5 (.string rs)).set 6 (.bool amxn)).set 7 (.int .i64 amxi)).set 8 (.string amxs)
          have hbel := below_set (below_set (below_set (below_set (below_set (below_set (below_set (below_set (below_set HB3.out (w.heap.size + 1 + 1) 0 (.int .i64 rct) (by omega)) (w.heap.size + 1 + 1) 1 (.int .i64 rhi) (by omega)) (w.heap.size + 1 + 1) 2 (.int .u64 lo) (by omega)) (w.heap.size + 1 + 1) 3 (.bool rn) (by omega)) (w.heap.size + 1 + 1) 4 (.int .i64 ri) (by omega)) (w.heap.size + 1 + 1) 5 (.string rs) (by omega)) (w.heap.size + 1 + 1) 6 (.bool amxn) (by omega)) (w.heap.size + 1 + 1) 7 (.int .i64 amxi) (by omega)) (w.heap.size + 1 + 1) 8 (.string amxs) (by omega)
          revert hrow hbel
          generalize World.setCell (World.setCell (World.setCell (World.setCell _ _ _) _ _) _ _) _ _ = wf
          intro hrow hbel
          have HBF := hid hbel
          clear z0 z1 z2 z3 z4 z5 z6 z7 z8 hbel
          obtain ⟨z0, z1, z2, z3, z4, z5, z6, z7, z8⟩ := row9 hrow
          refine bodyPost_ret (v := .agg #[.int .i64 rct, .int .i64 rhi, .int .u64 lo, .bool rn, .int .i64 ri, .string rs, .bool amxn, .int .i64 amxi, .string amxs]) ?_ rfl ⟨rfl, HBF.out⟩
          simp [results, Tryz.results23, go_sem, *]
        · rw [if_pos rfl] at HMX
          go_wp2_with fail
          rw [HMX.out]
          have hz3 := ((HRZ3.out.other (a := ⟨w.heap.size + 1 + 1 + 1, 6, none⟩) (.bool bmxn) (by simp)).other (a := ⟨w.heap.size + 1 + 1 + 1, 7, none⟩) (.int .i64 bmxi) (by simp)).other (a := ⟨w.heap.size + 1 + 1 + 1, 8, none⟩) (.string bmxs) (by simp)
          have hb3' := below_set (below_set (below_set HB3.out (w.heap.size + 1 + 1 + 1) 6 (.bool bmxn) (by omega)) (w.heap.size + 1 + 1 + 1) 7 (.int .i64 bmxi) (by omega)) (w.heap.size + 1 + 1 + 1) 8 (.string bmxs) (by omega)
          have hrow := ((((((((hz3.set 0 (.int .i64 rct)).set 1 (.int .i64 rhi)).set 2 (.int .u64 lo)).set 3 (.bool rn)).set 4 (.int .i64 ri)).set 5 (.string rs)).set 6 (.bool bmxn)).set 7 (.int .i64 bmxi)).set 8 (.string bmxs)
          have hbel := below_set (below_set (below_set (below_set (below_set (below_set (below_set (below_set (below_set hb3' (w.heap.size + 1 + 1) 0 (.int .i64 rct) (by omega)) (w.heap.size + 1 + 1) 1 (.int .i64 rhi) (by omega)) (w.heap.size + 1 + 1) 2 (.int .u64 lo) (by omega)) (w.heap.size + 1 + 1) 3 (.bool rn) (by omega)) (w.heap.size + 1 + 1) 4 (.int .i64 ri) (by omega)) (w.heap.size + 1 + 1) 5 (.string rs) (by omega)) (w.heap.size + 1 + 1) 6 (.bool bmxn) (by omega)) (w.heap.size + 1 + 1) 7 (.int .i64 bmxi) (by omega)) (w.heap.size + 1 + 1) 8 (.string bmxs) (by omega)
          clear hz3 hb3'
          revert hrow hbel
          generalize World.setCell (World.setCell (World.setCell (World.setCell _ _ _) _ _) _ _) _ _ = wf
          intro hrow hbel
          have HBF := hid hbel
          clear z0 z1 z2 z3 z4 z5 z6 z7 z8 hbel
          obtain ⟨z0, z1, z2, z3, z4, z5, z6, z7, z8⟩ := row9 hrow
          refine bodyPost_ret (v := .agg #[.int .i64 rct, .int .i64 rhi, .int .u64 lo, .bool rn, .int .i64 ri, .string rs, .bool bmxn, .int .i64 bmxi, .string bmxs]) ?_ rfl ⟨rfl, HBF.out⟩
          simp [results, Tryz.results23, go_sem, *]
end Go.Proofs.YthonbfojpbfmgaaGreatDoor
