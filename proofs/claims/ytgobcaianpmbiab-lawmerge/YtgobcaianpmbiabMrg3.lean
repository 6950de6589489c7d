/- Parts: Merge of the plain answer. -/
import Derived.Test.YtgobcaianpmbiabMrg2
import Derived.Deep.QuietTactic
import Derived.Deep.CutRange
set_option linter.unusedVariables false
set_option linter.unusedSimpArgs false
set_option linter.unnecessarySimpa false
set_option maxRecDepth 200000
namespace Go.Proofs.Ytgobcaianpmbiab
open Go.RowKit

/-- the carry into limb k, and limb k of the sum -/
def cyL (x y : Nat → Nat) : Nat → Nat
  | 0 => 0
  | k + 1 => (x k + y k + cyL x y k) / 4294967296
def smL (x y : Nat → Nat) (k : Nat) : Nat := (x k + y k + cyL x y k) % 4294967296
theorem cyL_le (x y : Nat → Nat) (hx : ∀ k, x k < 4294967296) (hy : ∀ k, y k < 4294967296) : ∀ k, cyL x y k ≤ 1
  | 0 => by simp [cyL]
  | k + 1 => by have := cyL_le x y hx hy k; have := hx k; have := hy k; simp only [cyL]; omega
def limb (lo hi : Nat) : Nat → Nat
  | 0 => lo % 4294967296
  | 1 => lo / 4294967296 % 4294967296
  | 2 => hi % 4294967296
  | 3 => hi / 4294967296 % 4294967296
  | _ => 0
theorem smL_lt (x y : Nat → Nat) (k : Nat) : smL x y k < 4294967296 := Nat.mod_lt _ (by decide)
theorem limb_lt (lo hi k : Nat) : limb lo hi k < 4294967296 := by unfold limb; split <;> omega
theorem limbs_sum (la lb ha hb : Nat) (h1 : la < 18446744073709551616) (h2 : lb < 18446744073709551616) (h3 : ha < 18446744073709551616) (h4 : hb < 18446744073709551616) :
    smL (limb la ha) (limb lb hb) 1 * 4294967296 + smL (limb la ha) (limb lb hb) 0 = (la + lb) % 18446744073709551616 ∧
    smL (limb la ha) (limb lb hb) 3 * 4294967296 + smL (limb la ha) (limb lb hb) 2 = (ha + hb + (la + lb) / 18446744073709551616) % 18446744073709551616 := by
  simp only [smL, cyL, limb]
  have e1 : la / 4294967296 % 4294967296 = la / 4294967296 := by omega
  have e2 : lb / 4294967296 % 4294967296 = lb / 4294967296 := by omega
  have e3 : ha / 4294967296 % 4294967296 = ha / 4294967296 := by omega
  have e4 : hb / 4294967296 % 4294967296 = hb / 4294967296 := by omega
  rw [e1, e2, e3, e4, Nat.add_zero]
  clear e1 e2 e3 e4
  generalize hs0 : la % 4294967296 + lb % 4294967296 = s0
  generalize hs1 : la / 4294967296 + lb / 4294967296 + s0 / 4294967296 = s1
  have a1 : s1 % 4294967296 * 4294967296 + s0 % 4294967296 = (la + lb) % 18446744073709551616 ∧ s1 / 4294967296 = (la + lb) / 18446744073709551616 := by omega
  refine ⟨a1.1, ?_⟩
  rw [a1.2]
  generalize (la + lb) / 18446744073709551616 = c
  omega
/-- the array behind k rounds -/
def arrL (x y : Nat → Nat) (k : Nat) : List Nat := [if 0 < k then smL x y 0 else x 0, if 1 < k then smL x y 1 else x 1, if 2 < k then smL x y 2 else x 2, if 3 < k then smL x y 3 else x 3]
theorem arrL_get (x y : Nat → Nat) (k : Nat) (hk : k < 4) : (arrL x y k).getD k 0 = x k := by
  have : k = 0 ∨ k = 1 ∨ k = 2 ∨ k = 3 := by omega
  rcases this with rfl | rfl | rfl | rfl <;> simp [arrL]
theorem arrL_set (x y : Nat → Nat) (k : Nat) (hk : k < 4) : (arrL x y k).set k (smL x y k) = arrL x y (k + 1) := by
  have : k = 0 ∨ k = 1 ∨ k = 2 ∨ k = 3 := by omega
  rcases this with rfl | rfl | rfl | rfl <;> simp [arrL]
theorem arrL_four (x y : Nat → Nat) : arrL x y 4 = [smL x y 0, smL x y 1, smL x y 2, smL x y 3] := by simp [arrL]
theorem wrap_of_mod (n : Int) (m : Nat) (h : (m : Int) = n % 18446744073709551616) : wrap64 (m : Int) = wrap64 n := by unfold wrap64; omega
theorem u64s_set2 (ys : List Nat) (i n : Nat) : (u64s ys).set i (.int .u64 (n : Int)) = u64s (ys.set i n) := by simp [u64s, u64, List.map_set]
theorem rows2 {u : World} {X Y : Array Value} {eX eY : TypeId} : Row ((u.alloc (.cells X eX)).alloc (.cells Y eY)) u.heap.size eX X.toList ∧ Row ((u.alloc (.cells X eX)).alloc (.cells Y eY)) (u.heap.size + 1) eY Y.toList ∧ Below u.heap.size u ((u.alloc (.cells X eX)).alloc (.cells Y eY)) ∧ ((u.alloc (.cells X eX)).alloc (.cells Y eY)).heap.size = u.heap.size + 1 + 1 := by
  have nw : ∀ (u : World) (D : Array Value) (e : TypeId), Row (u.alloc (.cells D e)) u.heap.size e D.toList := fun u D e => by unfold Row; rw [heap_alloc_new]
  have sz : ∀ (u : World) (o : Obj), (u.alloc o).heap.size = u.heap.size + 1 := fun u o => by simp
  have bl : ∀ (u : World) (o : Obj), Below u.heap.size u (u.alloc o) := fun u o => (Below.refl _ _).alloc (Nat.le_refl _) _
  have r2 := nw (u.alloc (.cells X eX)) Y eY
  rw [sz] at r2
  exact ⟨(nw u X eX).mono (bl _ _), r2, Below.then' (bl _ _) (bl _ _) (by simp), by rw [sz, sz]⟩
set_option maxHeartbeats 4000000 in
theorem refMerge_any (a b : P9) (w : World) (ha : a.lo < 18446744073709551616) (hb : b.lo < 18446744073709551616) : Calls Try.prog 6 #[a.v, b.v] w fun e w' => e = .returned (mergeP a b).v ∧ Below w.heap.size w w' := by
  have HV : Hid ((mergeP a b).v = .agg #[.int .i64 (wrap64 (a.ct + b.ct)), .int .i64 (wrap64 (a.hi + b.hi + ((a.lo + b.lo) / 18446744073709551616 : Nat))), .int .u64 ((a.lo + b.lo) % 18446744073709551616 : Nat), .bool (pickMn a b).n, .int .i64 (pickMn a b).i, .string (pickMn a b).s, .bool (pickMx a b).n, .int .i64 (pickMx a b).i, .string (pickMx a b).s]) := hid rfl
  have HMN : Hid (pickMn a b = if a.ct = 0 then b.mn else if b.ct = 0 then a.mn else if decide (ordC b.mn a.mn < 0) = true then b.mn else a.mn) := hid (by rw [ordC_lt]; rfl)
  have HMX : Hid (pickMx a b = if a.ct = 0 then b.mx else if b.ct = 0 then a.mx else if decide (ordC a.mx b.mx < 0) = true then b.mx else a.mx) := hid (by rw [ordC_lt]; rfl)
  have HL1 := hid (fun w2 : World => order_C b.mn a.mn w2)
  have HL2 := hid (fun w2 : World => order_C a.mx b.mx w2)
  generalize pickMn a b = rmn at *
  generalize pickMx a b = rmx at *
  generalize ordC b.mn a.mn = l1 at *
  generalize ordC a.mx b.mx = l2 at *
  rw [HV.out]
  clear HV
  obtain ⟨act, ahi, alo, ⟨amnn, amni, amns⟩, ⟨amxn, amxi, amxs⟩⟩ := a
  obtain ⟨bct, bhi, blo, ⟨bmnn, bmni, bmns⟩, ⟨bmxn, bmxi, bmxs⟩⟩ := b
  unfold P9.v C3.v at *
  simp only at *
  have hua : (ahi % 18446744073709551616).toNat < 18446744073709551616 := by omega
  have hub : (bhi % 18446744073709551616).toNat < 18446744073709551616 := by omega
  obtain ⟨s1, s2⟩ := limbs_sum alo blo (ahi % 18446744073709551616).toNat (bhi % 18446744073709551616).toNat ha hb hua hub
  have hwa : IntKind.u64.wrap ahi = ((ahi % 18446744073709551616).toNat : Int) := by rw [IntKind.wrap_u64]; omega
  have hwb : IntKind.u64.wrap bhi = ((bhi % 18446744073709551616).toNat : Int) := by rw [IntKind.wrap_u64]; omega
  have hrhi : wrap64 ((smL (limb alo (ahi % 18446744073709551616).toNat) (limb blo (bhi % 18446744073709551616).toNat) 3 * 4294967296 + smL (limb alo (ahi % 18446744073709551616).toNat) (limb blo (bhi % 18446744073709551616).toNat) 2 : Nat) : Int) = wrap64 (ahi + bhi + ((alo + blo) / 18446744073709551616 : Nat)) := by
    apply wrap_of_mod
    rw [s2]
    omega
  rw [← s1, ← hrhi]
  clear s1 s2 hrhi
  generalize (ahi % 18446744073709551616).toNat = ua at *
  generalize (bhi % 18446744073709551616).toNat = ub at *
  have x0 : (alo : Int) % 4294967296 = (limb alo ua 0 : Nat) := by simp [limb]
  have x1 : (alo : Int) / 4294967296 = (limb alo ua 1 : Nat) := by simp only [limb]; omega
  have x2 : (ua : Int) % 4294967296 = (limb alo ua 2 : Nat) := by simp [limb]
  have x3 : (ua : Int) / 4294967296 = (limb alo ua 3 : Nat) := by simp only [limb]; omega
  have y0 : (blo : Int) % 4294967296 = (limb blo ub 0 : Nat) := by simp [limb]
  have y1 : (blo : Int) / 4294967296 = (limb blo ub 1 : Nat) := by simp only [limb]; omega
  have y2 : (ub : Int) % 4294967296 = (limb blo ub 2 : Nat) := by simp [limb]
  have y3 : (ub : Int) / 4294967296 = (limb blo ub 3 : Nat) := by simp only [limb]; omega
  have HXL := hid (limb_lt alo ua)
  have HYL := hid (limb_lt blo ub)
  generalize limb alo ua = x at *
  generalize limb blo ub = y at *
  have HSM : Hid (∀ k, (x k : Int) + (y k : Int) + (cyL x y k : Nat) = ((x k + y k + cyL x y k : Nat) : Int)) := hid (fun k => by simp)
  have HCL := hid (cyL_le x y HXL.out HYL.out)
  generalize hrc : wrap64 (act + bct) = rct at *
  obtain ⟨R1, hR1⟩ : ∃ R1, wrap64 ((smL x y 3 * 4294967296 + smL x y 2 : Nat) : Int) = R1 := ⟨_, rfl⟩
  obtain ⟨R2, hR2⟩ : ∃ R2 : Int, ((smL x y 1 * 4294967296 + smL x y 0 : Nat) : Int) = R2 := ⟨_, rfl⟩
  rw [hR1, hR2]
  have HR1 := hid hR1
  have HR2 := hid hR2
  clear hR1 hR2
  obtain ⟨ra, rb, rz, rc, hbw, hsz⟩ := rows4 (w := w) (A := #[.int .i64 act, .int .i64 ahi, .int .u64 alo, .bool amnn, .int .i64 amni, .string amns, .bool amxn, .int .i64 amxi, .string amxs]) (B := #[.int .i64 bct, .int .i64 bhi, .int .u64 blo, .bool bmnn, .int .i64 bmni, .string bmns, .bool bmxn, .int .i64 bmxi, .string bmxs])
    (Z := #[.int .i64 0, .int .i64 0, .int .u64 0, .bool false, .int .i64 0, .string ⟨#[]⟩, .bool false, .int .i64 0, .string ⟨#[]⟩]) (C := #[.int .i64 rct, .int .i64 0, .int .u64 0, .bool amnn, .int .i64 amni, .string amns, .bool amxn, .int .i64 amxi, .string amxs]) (eA := 26) (eB := 26) (eZ := 26) (eC := 26)
  obtain ⟨rx, ry, hbw2, hsz2⟩ := rows2 (u := (((w.alloc (.cells #[.int .i64 act, .int .i64 ahi, .int .u64 alo, .bool amnn, .int .i64 amni, .string amns, .bool amxn, .int .i64 amxi, .string amxs] 26)).alloc (.cells #[.int .i64 bct, .int .i64 bhi, .int .u64 blo, .bool bmnn, .int .i64 bmni, .string bmns, .bool bmxn, .int .i64 bmxi, .string bmxs] 26)).alloc (.cells #[.int .i64 0, .int .i64 0, .int .u64 0, .bool false, .int .i64 0, .string ⟨#[]⟩, .bool false, .int .i64 0, .string ⟨#[]⟩] 26)).alloc (.cells #[.int .i64 rct, .int .i64 0, .int .u64 0, .bool amnn, .int .i64 amni, .string amns, .bool amxn, .int .i64 amxi, .string amxs] 26))
    (X := #[.int .u64 (x 0 : Nat), .int .u64 (x 1 : Nat), .int .u64 (x 2 : Nat), .int .u64 (x 3 : Nat)]) (Y := #[.int .u64 (y 0 : Nat), .int .u64 (y 1 : Nat), .int .u64 (y 2 : Nat), .int .u64 (y 3 : Nat)]) (eX := 42) (eY := 42)
  rw [hsz] at rx ry hsz2
  have HA := hid (ra.mono hbw2); have HB := hid (rb.mono hbw2); have HC := hid (rc.mono hbw2); have HZ := hid (rz.mono hbw2); have HX := hid rx; have HY := hid ry; have HBW := hid (Below.then' hbw hbw2 hbw.size); have HSZ := hid hsz2
  clear ra rb rz rc rx ry hbw hbw2 hsz hsz2
  go_enter Try.func6, Try.ntmps6
  go_wp2_with fail
  revert HA HB HC HZ HX HY HBW HSZ
  generalize World.alloc (World.alloc (World.alloc (World.alloc (World.alloc (World.alloc _ _) _) _) _) _) _ = w6
  intro HA HB HC HZ HX HY HBW HSZ
  go_loopw [8, 51] (fun c i wr => ∃ k : Nat, k ≤ 4 ∧ i = .int .i64 k ∧ c = .int .u64 (cyL x y k : Nat) ∧ Hid (Row wr w.heap.size 26 [.int .i64 act, .int .i64 ahi, .int .u64 alo, .bool amnn, .int .i64 amni, .string amns, .bool amxn, .int .i64 amxi, .string amxs]) ∧ Hid (Row wr (w.heap.size + 1) 26 [.int .i64 bct, .int .i64 bhi, .int .u64 blo, .bool bmnn, .int .i64 bmni, .string bmns, .bool bmxn, .int .i64 bmxi, .string bmxs]) ∧ Hid (Row wr (w.heap.size + 1 + 1) 26 [.int .i64 0, .int .i64 0, .int .u64 0, .bool false, .int .i64 0, .string ⟨#[]⟩, .bool false, .int .i64 0, .string ⟨#[]⟩]) ∧ Hid (Row wr (w.heap.size + 1 + 1 + 1) 26 [.int .i64 rct, .int .i64 0, .int .u64 0, .bool amnn, .int .i64 amni, .string amns, .bool amxn, .int .i64 amxi, .string amxs]) ∧ Hid (Row wr (w.heap.size + 1 + 1 + 1 + 1) 42 (u64s (arrL x y k))) ∧ Hid (Row wr (w.heap.size + 1 + 1 + 1 + 1 + 1) 42 (u64s [y 0, y 1, y 2, y 3])) ∧ Hid (Below w.heap.size w wr)) (fun _ i _ => 4 - (intOf i).toNat)
  case atStart => exact ⟨0, by omega, rfl, rfl, HA, HB, HZ, HC, HX, HY, HBW⟩
  case round =>
    obtain ⟨k, hk, rfl, rfl, HA2, HB2, HZ2, HC2, HX2, HY2, HBW2⟩ := hrel
    by_cases hlt : k < 4
    · have cx : wr.cell? ⟨w.heap.size + 1 + 1 + 1 + 1, k, none⟩ = some (.int .u64 (x k : Nat)) := by rw [HX2.out.cell, u64s_get _ k (by simpa [arrL] using hlt), arrL_get x y k hlt]
      have cy : wr.cell? ⟨w.heap.size + 1 + 1 + 1 + 1 + 1, k, none⟩ = some (.int .u64 (y k : Nat)) := by
        rw [HY2.out.cell, u64s_get _ k (by simpa using hlt)]
        have : k = 0 ∨ k = 1 ∨ k = 2 ∨ k = 3 := by omega
        rcases this with rfl | rfl | rfl | rfl <;> rfl
      have fx := HX2.out.frozen k
      have hxk := HXL.out k
      have hyk := HYL.out k
      have hck := HCL.out k
      have HS := hid (HX2.out.set k (.int .u64 (smL x y k : Nat)))
      have HAS := hid (arrL_set x y k hlt)
      have hcs : cyL x y (k + 1) = (x k + y k + cyL x y k) / 4294967296 := rfl
      have hms : smL x y k = (x k + y k + cyL x y k) % 4294967296 := rfl
      have HSK : Hid (((x k : Int) + (y k : Int) + (cyL x y k : Nat)) % 4294967296 = (smL x y k : Nat)) := hid (by rw [hms]; omega)
      have HCK : Hid (((x k : Int) + (y k : Int) + (cyL x y k : Nat)) / 4294967296 = (cyL x y (k + 1) : Nat)) := hid (by rw [hcs]; omega)
      clear hcs hms
      generalize cyL x y k = ck at *
      generalize smL x y k = sk at *
      generalize x k = xk at *
      generalize y k = yk at *
      go_wp2_with fail
      go_quiet (fail)
      go_wp2_with fail
      go_roundw
      case rel =>
        rw [HSK.out]
        have nd : ∀ (g : Nat) (e : TypeId) (cs : List Value), Row wr g e cs → Row (wr.drewN nq) g e cs := fun g e cs h => h
        refine ⟨k + 1, by omega, by go_num, by rw [← HCK.out], hid ((nd _ _ _ HA2.out).other _ (by simp; omega)), hid ((nd _ _ _ HB2.out).other _ (by simp)), hid ((nd _ _ _ HZ2.out).other _ (by simp)), hid ((nd _ _ _ HC2.out).other _ (by simp)), hid ?_, hid ((nd _ _ _ HY2.out).other _ (by simp)), hid (below_set (bdrew HBW2.out nq) _ _ _ (by omega))⟩
        rw [← HAS.out, ← u64s_set2]
        exact (nd _ _ _ HX2.out).set k _
      case measure => simp [intOf]; omega
    · obtain rfl : k = 4 := by omega
      rw [arrL_four] at HX2
      have l0 := smL_lt x y 0
      have l1' := smL_lt x y 1
      have l2' := smL_lt x y 2
      have l3 := smL_lt x y 3
      have q0 : wr.cell? ⟨w.heap.size + 1 + 1 + 1 + 1, 0, none⟩ = some (.int .u64 (smL x y 0 : Nat)) := by rw [HX2.out.cell]; rfl
      have q1 : wr.cell? ⟨w.heap.size + 1 + 1 + 1 + 1, 1, none⟩ = some (.int .u64 (smL x y 1 : Nat)) := by rw [HX2.out.cell]; rfl
      have q2 : wr.cell? ⟨w.heap.size + 1 + 1 + 1 + 1, 2, none⟩ = some (.int .u64 (smL x y 2 : Nat)) := by rw [HX2.out.cell]; rfl
      have q3 : wr.cell? ⟨w.heap.size + 1 + 1 + 1 + 1, 3, none⟩ = some (.int .u64 (smL x y 3 : Nat)) := by rw [HX2.out.cell]; rfl
      have e1 : wrap64 ((smL x y 3 : Int) * 4294967296 + (smL x y 2 : Nat)) = R1 := by rw [← HR1.out]; congr 1
      have e2 : (smL x y 1 : Int) * 4294967296 + (smL x y 0 : Nat) = R2 := by rw [← HR2.out]; omega
      clear HR1 HR2
      generalize smL x y 0 = t0 at *
      generalize smL x y 1 = t1 at *
      generalize smL x y 2 = t2 at *
      generalize smL x y 3 = t3 at *
      clear HX2 HY2 HXL HYL HSM HCL
      obtain ⟨a0, a1, a2, a3, a4, a5, a6, a7, a8⟩ := row9 HA2.out
      obtain ⟨b0, b1, b2, b3, b4, b5, b6, b7, b8⟩ := row9 HB2.out
      obtain ⟨c0, c1, c2, c3, c4, c5, c6, c7, c8⟩ := row9 HC2.out
      have f1 := HC2.out.frozen 1
      have f2 := HC2.out.frozen 2
      go_upto_region 14 with fail
      have HA3 : Hid (Row ((wr.setCell ⟨w.heap.size + 1 + 1 + 1, 2, none⟩ (.int .u64 R2)).setCell ⟨w.heap.size + 1 + 1 + 1, 1, none⟩ (.int .i64 R1)) w.heap.size 26 [.int .i64 act, .int .i64 ahi, .int .u64 alo, .bool amnn, .int .i64 amni, .string amns, .bool amxn, .int .i64 amxi, .string amxs]) := hid ((HA2.out.other _ (by simp; omega)).other _ (by simp; omega))
      have HB3 : Hid (Row ((wr.setCell ⟨w.heap.size + 1 + 1 + 1, 2, none⟩ (.int .u64 R2)).setCell ⟨w.heap.size + 1 + 1 + 1, 1, none⟩ (.int .i64 R1)) (w.heap.size + 1) 26 [.int .i64 bct, .int .i64 bhi, .int .u64 blo, .bool bmnn, .int .i64 bmni, .string bmns, .bool bmxn, .int .i64 bmxi, .string bmxs]) := hid ((HB2.out.other _ (by simp)).other _ (by simp))
      have HZ3 : Hid (Row ((wr.setCell ⟨w.heap.size + 1 + 1 + 1, 2, none⟩ (.int .u64 R2)).setCell ⟨w.heap.size + 1 + 1 + 1, 1, none⟩ (.int .i64 R1)) (w.heap.size + 1 + 1) 26 [.int .i64 0, .int .i64 0, .int .u64 0, .bool false, .int .i64 0, .string ⟨#[]⟩, .bool false, .int .i64 0, .string ⟨#[]⟩]) := hid ((HZ2.out.other _ (by simp)).other _ (by simp))
      have HC3 : Hid (Row ((wr.setCell ⟨w.heap.size + 1 + 1 + 1, 2, none⟩ (.int .u64 R2)).setCell ⟨w.heap.size + 1 + 1 + 1, 1, none⟩ (.int .i64 R1)) (w.heap.size + 1 + 1 + 1) 26 [.int .i64 rct, .int .i64 R1, .int .u64 R2, .bool amnn, .int .i64 amni, .string amns, .bool amxn, .int .i64 amxi, .string amxs]) := hid ((HC2.out.set 2 _).set 1 _)
      have HBW3 : Hid (Below w.heap.size w ((wr.setCell ⟨w.heap.size + 1 + 1 + 1, 2, none⟩ (.int .u64 R2)).setCell ⟨w.heap.size + 1 + 1 + 1, 1, none⟩ (.int .i64 R1))) := hid (below_set (below_set HBW2.out _ _ _ (by omega)) _ _ _ (by omega))
      clear HA2 HB2 HC2 HZ2 HBW2 a0 a1 a2 a3 a4 a5 a6 a7 a8 b0 b1 b2 b3 b4 b5 b6 b7 b8 c0 c1 c2 c3 c4 c5 c6 c7 c8 f1 f2 q0 q1 q2 q3
      revert HA3 HB3 HZ3 HC3 HBW3
      generalize World.setCell (World.setCell _ _ _) _ _ = w7
      intro HA3 HB3 HZ3 HC3 HBW3
      clear e1 e2
      obtain ⟨a0, a1, a2, a3, a4, a5, a6, a7, a8⟩ := row9 HA3.out
      obtain ⟨b0, b1, b2, b3, b4, b5, b6, b7, b8⟩ := row9 HB3.out
      have HMN2 : Hid (rmn = if (decide (act = 0) || (!decide (bct = 0) && decide (l1 < 0))) = true then ⟨bmnn, bmni, bmns⟩ else ⟨amnn, amni, amns⟩) := hid (by
        rw [HMN.out]
        by_cases h0 : act = 0
        · simp [h0]
        · by_cases h1 : bct = 0
          · simp [h0, h1]
          · simp [h0, h1])
      have HMX2 : Hid (rmx = if (decide (act = 0) || (!decide (bct = 0) && decide (l2 < 0))) = true then ⟨bmxn, bmxi, bmxs⟩ else ⟨amxn, amxi, amxs⟩) := hid (by
        rw [HMX.out]
        by_cases h0 : act = 0
        · simp [h0]
        · by_cases h1 : bct = 0
          · simp [h0, h1]
          · simp [h0, h1])
      clear HMN HMX
      go_cut [100] from 85 (fun s100 wc => s100 = .bool (decide (act = 0) || (!decide (bct = 0) && decide (l1 < 0))) ∧ Hid (Row wc w.heap.size 26 [.int .i64 act, .int .i64 ahi, .int .u64 alo, .bool amnn, .int .i64 amni, .string amns, .bool amxn, .int .i64 amxi, .string amxs]) ∧ Hid (Row wc (w.heap.size + 1) 26 [.int .i64 bct, .int .i64 bhi, .int .u64 blo, .bool bmnn, .int .i64 bmni, .string bmns, .bool bmxn, .int .i64 bmxi, .string bmxs]) ∧ Hid (Row wc (w.heap.size + 1 + 1) 26 [.int .i64 0, .int .i64 0, .int .u64 0, .bool false, .int .i64 0, .string ⟨#[]⟩, .bool false, .int .i64 0, .string ⟨#[]⟩]) ∧ Hid (Row wc (w.heap.size + 1 + 1 + 1) 26 [.int .i64 rct, .int .i64 R1, .int .u64 R2, .bool amnn, .int .i64 amni, .string amns, .bool amxn, .int .i64 amxi, .string amxs]) ∧ Hid (Below w.heap.size w wc))
      case first =>
        by_cases h0 : act = 0
        · have g0 : (act == 0) = true := by simp [h0]
          go_wp2_with fail
          go_meet
          exact ⟨by simp [h0], HA3, HB3, HZ3, HC3, HBW3⟩
        · have g0 : (act == 0) = false := by simp [h0]
          by_cases h1 : bct = 0
          · have g1 : (bct != 0) = false := by simp [h1]
            go_wp2_with fail
            go_meet
            exact ⟨by simp [h0, h1], HA3, HB3, HZ3, HC3, HBW3⟩
          · have g1 : (bct != 0) = true := by simp [h1]
            go_wp2_with (go_at_call 18; refine (HL1.out _).mono ?_; rintro e w8 ⟨rfl, hb8⟩; have HB8 := hid hb8; clear hb8)
            all_goals (go_meet; exact ⟨by simp [h0, h1], hid (HA3.out.mono HB8.out), hid (HB3.out.mono HB8.out), hid (HZ3.out.mono HB8.out), hid (HC3.out.mono HB8.out), hid (Below.then' HBW3.out HB8.out HBW3.out.size)⟩)
      case rest =>
        obtain ⟨rfl, HA4, HB4, HZ4, HC4, HBW4⟩ := hcut
        generalize (decide (act = 0) || (!decide (bct = 0) && decide (l1 < 0))) = d1 at *
        clear HA3 HB3 HZ3 HC3 HBW3 HL1 a0 a1 a2 a3 a4 a5 a6 a7 a8 b0 b1 b2 b3 b4 b5 b6 b7 b8
        obtain ⟨b0, b1, b2, b3, b4, b5, b6, b7, b8⟩ := row9 HB4.out
        obtain ⟨c0, c1, c2, c3, c4, c5, c6, c7, c8⟩ := row9 HC4.out
        have f3 := HC4.out.frozen 3
        have f4 := HC4.out.frozen 4
        have f5 := HC4.out.frozen 5
        go_upto_if 100 with fail
        go_cut [] from 101 (fun wc => Hid (Row wc w.heap.size 26 [.int .i64 act, .int .i64 ahi, .int .u64 alo, .bool amnn, .int .i64 amni, .string amns, .bool amxn, .int .i64 amxi, .string amxs]) ∧ Hid (Row wc (w.heap.size + 1) 26 [.int .i64 bct, .int .i64 bhi, .int .u64 blo, .bool bmnn, .int .i64 bmni, .string bmns, .bool bmxn, .int .i64 bmxi, .string bmxs]) ∧ Hid (Row wc (w.heap.size + 1 + 1) 26 [.int .i64 0, .int .i64 0, .int .u64 0, .bool false, .int .i64 0, .string ⟨#[]⟩, .bool false, .int .i64 0, .string ⟨#[]⟩]) ∧ Hid (Row wc (w.heap.size + 1 + 1 + 1) 26 [.int .i64 rct, .int .i64 R1, .int .u64 R2, .bool rmn.n, .int .i64 rmn.i, .string rmn.s, .bool amxn, .int .i64 amxi, .string amxs]) ∧ Hid (Below w.heap.size w wc))
        case first =>
          cases d1
          · rw [if_neg (by simp)] at HMN2
            go_wp2_with fail
            go_meet
            rw [HMN2.out]
            exact ⟨HA4, HB4, HZ4, HC4, HBW4⟩
          · rw [if_pos rfl] at HMN2
            go_wp2_with fail
            go_meet
            rw [HMN2.out]
            exact ⟨hid (((HA4.out.other _ (by simp; omega)).other _ (by simp; omega)).other _ (by simp; omega)), hid (((HB4.out.other _ (by simp)).other _ (by simp)).other _ (by simp)), hid (((HZ4.out.other _ (by simp)).other _ (by simp)).other _ (by simp)), hid (((HC4.out.set 3 (.bool bmnn)).set 4 (.int .i64 bmni)).set 5 (.string bmns)), hid (below_set (below_set (below_set HBW4.out _ _ _ (by omega)) _ _ _ (by omega)) _ _ _ (by omega))⟩
        case rest =>
          obtain ⟨HA3, HB3, HZ3, HC3, HBW3⟩ := hcut
          obtain ⟨rn, ri, rs⟩ := rmn
          clear HA4 HB4 HZ4 HC4 HBW4 HMN2 b0 b1 b2 b3 b4 b5 b6 b7 b8 c0 c1 c2 c3 c4 c5 c6 c7 c8 f3 f4 f5
          simp only at HC3
          obtain ⟨a0, a1, a2, a3, a4, a5, a6, a7, a8⟩ := row9 HA3.out
          obtain ⟨b0, b1, b2, b3, b4, b5, b6, b7, b8⟩ := row9 HB3.out
          go_upto_region 16 with fail
          go_cut [119] from 104 (fun s119 wc => s119 = .bool (decide (act = 0) || (!decide (bct = 0) && decide (l2 < 0))) ∧ Hid (Row wc w.heap.size 26 [.int .i64 act, .int .i64 ahi, .int .u64 alo, .bool amnn, .int .i64 amni, .string amns, .bool amxn, .int .i64 amxi, .string amxs]) ∧ Hid (Row wc (w.heap.size + 1) 26 [.int .i64 bct, .int .i64 bhi, .int .u64 blo, .bool bmnn, .int .i64 bmni, .string bmns, .bool bmxn, .int .i64 bmxi, .string bmxs]) ∧ Hid (Row wc (w.heap.size + 1 + 1) 26 [.int .i64 0, .int .i64 0, .int .u64 0, .bool false, .int .i64 0, .string ⟨#[]⟩, .bool false, .int .i64 0, .string ⟨#[]⟩]) ∧ Hid (Row wc (w.heap.size + 1 + 1 + 1) 26 [.int .i64 rct, .int .i64 R1, .int .u64 R2, .bool rn, .int .i64 ri, .string rs, .bool amxn, .int .i64 amxi, .string amxs]) ∧ Hid (Below w.heap.size w wc))
          case first =>
            by_cases h0 : act = 0
            · have g0 : (act == 0) = true := by simp [h0]
              go_wp2_with fail
              go_meet
              exact ⟨by simp [h0], HA3, HB3, HZ3, HC3, HBW3⟩
            · have g0 : (act == 0) = false := by simp [h0]
              by_cases h1 : bct = 0
              · have g1 : (bct != 0) = false := by simp [h1]
                go_wp2_with fail
                go_meet
                exact ⟨by simp [h0, h1], HA3, HB3, HZ3, HC3, HBW3⟩
              · have g1 : (bct != 0) = true := by simp [h1]
                go_wp2_with (go_at_call 18; refine (HL2.out _).mono ?_; rintro e w8 ⟨rfl, hb8⟩; have HB8 := hid hb8; clear hb8)
                all_goals (go_meet; exact ⟨by simp [h0, h1], hid (HA3.out.mono HB8.out), hid (HB3.out.mono HB8.out), hid (HZ3.out.mono HB8.out), hid (HC3.out.mono HB8.out), hid (Below.then' HBW3.out HB8.out HBW3.out.size)⟩)
          case rest =>
            obtain ⟨rfl, HA4, HB4, HZ4, HC4, HBW4⟩ := hcut
            generalize (decide (act = 0) || (!decide (bct = 0) && decide (l2 < 0))) = d2 at *
            clear HA3 HB3 HZ3 HC3 HBW3 HL2 a0 a1 a2 a3 a4 a5 a6 a7 a8 b0 b1 b2 b3 b4 b5 b6 b7 b8
            obtain ⟨b0, b1, b2, b3, b4, b5, b6, b7, b8⟩ := row9 HB4.out
            obtain ⟨c0, c1, c2, c3, c4, c5, c6, c7, c8⟩ := row9 HC4.out
            have f6 := HC4.out.frozen 6
            have f7 := HC4.out.frozen 7
            have f8 := HC4.out.frozen 8
            go_upto_if 119 with fail
            go_cut [] from 120 (fun wc => Hid (Row wc (w.heap.size + 1 + 1) 26 [.int .i64 0, .int .i64 0, .int .u64 0, .bool false, .int .i64 0, .string ⟨#[]⟩, .bool false, .int .i64 0, .string ⟨#[]⟩]) ∧ Hid (Row wc (w.heap.size + 1 + 1 + 1) 26 [.int .i64 rct, .int .i64 R1, .int .u64 R2, .bool rn, .int .i64 ri, .string rs, .bool rmx.n, .int .i64 rmx.i, .string rmx.s]) ∧ Hid (Below w.heap.size w wc))
            case first =>
              cases d2
              · rw [if_neg (by simp)] at HMX2
                go_wp2_with fail
                go_meet
                rw [HMX2.out]
                exact ⟨HZ4, HC4, HBW4⟩
              · rw [if_pos rfl] at HMX2
                go_wp2_with fail
                go_meet
                rw [HMX2.out]
                exact ⟨hid (((HZ4.out.other _ (by simp)).other _ (by simp)).other _ (by simp)), hid (((HC4.out.set 6 (.bool bmxn)).set 7 (.int .i64 bmxi)).set 8 (.string bmxs)), hid (below_set (below_set (below_set HBW4.out _ _ _ (by omega)) _ _ _ (by omega)) _ _ _ (by omega))⟩
            case rest =>
              obtain ⟨HZ3, HC3, HBW3⟩ := hcut
              obtain ⟨xn, xi, xs⟩ := rmx
              clear HA4 HB4 HZ4 HC4 HBW4 HMX2 b0 b1 b2 b3 b4 b5 b6 b7 b8 c0 c1 c2 c3 c4 c5 c6 c7 c8 f6 f7 f8
              simp only at HC3
              obtain ⟨c0, c1, c2, c3, c4, c5, c6, c7, c8⟩ := row9 HC3.out
              obtain ⟨z0, z1, z2, z3, z4, z5, z6, z7, z8⟩ := row9 HZ3.out
              have y0 := HZ3.out.frozen 0
              have y1 := HZ3.out.frozen 1
              have y2 := HZ3.out.frozen 2
              have y3 := HZ3.out.frozen 3
              have y4 := HZ3.out.frozen 4
              have y5 := HZ3.out.frozen 5
              have y6 := HZ3.out.frozen 6
              have y7 := HZ3.out.frozen 7
              have y8 := HZ3.out.frozen 8
              go_wp2_with fail
              have hrow := ((((((((HZ3.out.set 0 (.int .i64 rct)).set 1 (.int .i64 R1)).set 2 (.int .u64 R2)).set 3 (.bool rn)).set 4 (.int .i64 ri)).set 5 (.string rs)).set 6 (.bool xn)).set 7 (.int .i64 xi)).set 8 (.string xs)
              have hbel := below_set (below_set (below_set (below_set (below_set (below_set (below_set (below_set (below_set HBW3.out (w.heap.size + 1 + 1) 0 (.int .i64 rct) (by omega)) (w.heap.size + 1 + 1) 1 (.int .i64 R1) (by omega)) (w.heap.size + 1 + 1) 2 (.int .u64 R2) (by omega)) (w.heap.size + 1 + 1) 3 (.bool rn) (by omega)) (w.heap.size + 1 + 1) 4 (.int .i64 ri) (by omega)) (w.heap.size + 1 + 1) 5 (.string rs) (by omega)) (w.heap.size + 1 + 1) 6 (.bool xn) (by omega)) (w.heap.size + 1 + 1) 7 (.int .i64 xi) (by omega)) (w.heap.size + 1 + 1) 8 (.string xs) (by omega)
              revert hrow hbel
              generalize World.setCell (World.setCell (World.setCell (World.setCell _ _ _) _ _) _ _) _ _ = wf
              intro hrow hbel
              have HBF := hid hbel
              clear z0 z1 z2 z3 z4 z5 z6 z7 z8 hbel
              obtain ⟨z0, z1, z2, z3, z4, z5, z6, z7, z8⟩ := row9 hrow
              refine bodyPost_ret (v := .agg #[.int .i64 rct, .int .i64 R1, .int .u64 R2, .bool rn, .int .i64 ri, .string rs, .bool xn, .int .i64 xi, .string xs]) ?_ rfl ⟨rfl, HBF.out⟩
              simp [results, Try.results6, go_sem, *]
end Go.Proofs.Ytgobcaianpmbiab
