/- The plain answer: the different values, the smallest first. -/
import Derived.Test.YtdlkdiaobbakiaaGreatDoorLawencodeuptoB17
set_option linter.unusedVariables false
set_option linter.unusedSimpArgs false
set_option linter.unnecessarySimpa false
set_option maxRecDepth 100000
namespace Go.Proofs.YtdlkdiaobbakiaaGreatDoor
open Go.RowKit

def abv (l : Option PV) (x : PV) : Bool := match l with | none => true | some y => decide (0 < ordP x y)
def blw (a : Option PV) (x : PV) : Bool := match a with | none => true | some m => decide (ordP x m < 0)
def leastF (l a : Option PV) (x : PV) : Option PV := if (abv l x && blw a x) = true then some x else a
def leastP (l : Option PV) (vs : List PV) : Option PV := vs.foldl (leastF l) none
theorem leastP_snoc (l : Option PV) (vs : List PV) (v : PV) : leastP l (vs ++ [v]) = leastF l (leastP l vs) v := by simp [leastP]
def diffs (vs : List PV) : Nat → List PV → List PV
  | 0, out => out
  | k + 1, out => match leastP out.getLast? vs with
    | none => out
    | some m => diffs vs k (out ++ [m])
def diffP (vs : List PV) : List PV := diffs vs 257 []
def pvo (a : Option PV) : List Value := pvc (a.getD zeroP)
theorem getLast_getD (os : List PV) (u : Nat) (h : os.length = u + 1) : os.getLast? = some (os.getD u dfP) := by
  rw [List.getLast?_eq_getElem?, h]; simp [List.getD, List.getElem?_eq_getElem (show u < os.length by omega)]

set_option maxHeartbeats 16000000 in
theorem different_any (u : Value) (vs : List PV) (w : World) (hu : Rd w u vs.length 3 (cellsP vs)) (hl : vs.length ≤ 1048576) :
    Calls Tryz.prog 59 #[u] w fun e w' => ∃ r, e = .returned r ∧ w'.ownsRow w.heap.size 38 3 r (diffP vs).length (cellsP (diffP vs)) ∧ Below w.heap.size w w' := by
  have HU := hid hu
  obtain ⟨A1, c1, rfl, _, _, _⟩ := hu.form
  obtain ⟨R, hR⟩ : ∃ R, diffP vs = R := ⟨_, rfl⟩
  have HRR := hid hR
  rw [hR]
  clear hu hR
  go_enter Tryz.func59, Tryz.ntmps59
  go_wp2_with fail
  go_loopw [3] (fun ov wr => ∃ os : List PV, os.length ≤ 257 ∧ Hid (wr.ownsRow w.heap.size 38 3 ov os.length (cellsP os)) ∧ Hid (diffs vs (257 - os.length) os = R) ∧ Hid (Below w.heap.size w wr)) (fun ov _ => 257 - lenV ov)
  case atStart => exact ⟨[], by simp, hid ⟨by simp [cellsP], .inl ⟨rfl, rfl⟩⟩, HRR, hid (brefl w)⟩
  case round =>
    obtain ⟨os, hol, HOW, HD, HB⟩ := hrel
    obtain ⟨j, hj⟩ : ∃ j, os.length = j := ⟨_, rfl⟩
    have HJ := hid hj
    rw [hj] at HOW HD hol
    obtain ⟨O1, co1, rfl⟩ := owns3_form HOW.out
    by_cases hj2 : j ≤ 256
    · have hj3 : (j : Int) ≤ 256 := by omega
      have HDS : Hid (R = match leastP os.getLast? vs with | none => os | some m => diffs vs (257 - (j + 1)) (os ++ [m])) := hid (by
        rw [← HD.out, show 257 - j = (257 - (j + 1)) + 1 by omega]; rfl)
      clear HD hj
      have HBA := hid ((brefl wr).alloc (Nat.le_refl _) (.cells #[.bool false, .int .i64 0, .string ⟨#[]⟩] 38))
      have HRW : Hid (Row (wr.alloc (.cells #[.bool false, .int .i64 0, .string ⟨#[]⟩] 38)) wr.heap.size 38 (pvc zeroP)) := hid (by unfold Row; rw [heap_alloc_new]; rfl)
      go_upto_region 5 with fail
      generalize wr.alloc (.cells #[.bool false, .int .i64 0, .string ⟨#[]⟩] 38) = w3 at *
      have HSW := hid (show wr.heap.size < w3.heap.size from by
        have k0 : w3.cell? ⟨wr.heap.size, 0, none⟩ = some (.bool false) := by rw [HRW.out.cell]; rfl
        exact World.block_lt_of_cell? w3 _ k0)
      have HOL := hid (fun k hk => (HOW.out.lt k hk).2)
      have HWS := hid HB.out.size
      generalize wr = w2 at *
      obtain ⟨s, hs⟩ : ∃ s, w2.heap.size = s := ⟨_, rfl⟩
      have HSS := hid hs
      rw [hs] at HBA HRW HSW HWS
      simp only [hs] at HOL
      simp only [hs]
      clear hs
      have HU2 := hid (HU.out.mono HB.out)
      have HO2 := hid (owns3_rd HOW.out)
      go_wp2_with fail
      by_cases hj0 : j = 0
      · subst hj0
        obtain ⟨l, hl2⟩ : ∃ l, os.getLast? = l := ⟨_, rfl⟩
        have HLL : Hid (l = none) := hid (by rw [← hl2, List.length_eq_zero_iff.1 HJ.out]; rfl)
        rw [hl2] at HDS
        clear hl2
        go_loopw [4, 13] (fun f i wz => ∃ t : Nat, t ≤ vs.length ∧ i = .int .i64 t ∧ f = .bool (leastP l (vs.take t)).isSome ∧ Hid (Row wz s 38 (pvo (leastP l (vs.take t)))) ∧ Hid (Below s w2 wz)) (fun _ i _ => vs.length - (intOf i).toNat)
        case atStart => exact ⟨0, by omega, rfl, rfl, hid HRW.out, HBA⟩
        case round =>
          obtain ⟨t, ht, rfl, rfl, HRS, HBZ⟩ := hrel
          have HSL := hid HBZ.out.size
          have HWZ := hid (show s < wr.heap.size from by
            have k0 : wr.cell? ⟨s, 0, none⟩ = some (.bool false) := by rw [HRS.out.cell]; rfl
            exact World.block_lt_of_cell? wr _ k0)
          by_cases hlt : t < vs.length
          · obtain ⟨b, o, rfl, hcells⟩ := (HU2.out.mono (by rw [HSS.out]; exact HBZ.out)).atP (by omega)
            obtain ⟨l0, l1, l2⟩ := hcells t hlt
            have HST := hid (leastP_snoc l (vs.take t) (vs.getD t dfP))
            rw [← take_snoc vs dfP t hlt] at HST
            clear hcells
            generalize leastP l (vs.take t) = acc at *
            generalize vs.getD t dfP = X at *
            obtain ⟨xi, xs'⟩ := X
            simp only at l1 l2 HST
            have HBA4 := hid ((brefl wr).alloc (Nat.le_refl _) (.cells #[.bool false, .int .i64 xi, .string xs'] 38))
            have HRX : Hid (Row (wr.alloc (.cells #[.bool false, .int .i64 xi, .string xs'] 38)) wr.heap.size 38 [.bool false, .int .i64 xi, .string xs']) := hid (by unfold Row; rw [heap_alloc_new])
            have HB4 := hid (HBZ.out.trans (HBA4.out.mono (Nat.le_of_lt HWZ.out)))
            have HRS4 := hid (HRS.out.mono HBA4.out)
            have HSZ4 := hid (Nat.le_trans (Nat.le_of_lt HWZ.out) HBA4.out.size)
            skip
            go_upto_region 8 with fail
            generalize wr.alloc (.cells #[.bool false, .int .i64 xi, .string xs'] 38) = w4 at *
            have k0 : w4.cell? ⟨wr.heap.size, 0, none⟩ = some (.bool false) := by rw [HRX.out.cell]; rfl
            have k1 : w4.cell? ⟨wr.heap.size, 1, none⟩ = some (.int .i64 xi) := by rw [HRX.out.cell]; rfl
            have k2 : w4.cell? ⟨wr.heap.size, 2, none⟩ = some (.string xs') := by rw [HRX.out.cell]; rfl
            have HQW := hid (World.block_lt_of_cell? w4 _ k0)
            simp only at HQW
            clear l0 l1 l2
            have hsl : s < w4.heap.size := Nat.lt_trans HWZ.out HQW.out
            have HSLT := hid hsl
            clear hsl
            have HABV : Hid (abv l (xi, xs') = true) := hid (by rw [HLL.out]; rfl)
            generalize wr.heap.size = q at *
            rcases acc with _ | m
            · simp only [Option.isSome_none]
              clear HRS
              go_quiet (fail)
              have HQD : Hid (Below w4.heap.size w4 (w4.drewN nq)) := hid (bdrew (brefl w4) nq)
              generalize w4.drewN nq = w5 at *
              have HRS5 := hid (HRS4.out.mono HQD.out)
              have HB5 := hid (HB4.out.trans (HQD.out.mono HSZ4.out))
              have j0 := (HQD.out.cell (p := ⟨q, 0, none⟩) HQW.out).trans k0
              have j1 := (HQD.out.cell (p := ⟨q, 1, none⟩) HQW.out).trans k1
              have j2 := (HQD.out.cell (p := ⟨q, 2, none⟩) HQW.out).trans k2
              clear k0 k1 k2 
              have k0 := j0
              have k1 := j1
              have k2 := j2
              clear j0 j1 j2
              have m0 : w5.cell? ⟨s, 0, none⟩ = some (.bool false) := by rw [HRS5.out.cell]; rfl
              have m1 : w5.cell? ⟨s, 1, none⟩ = some (.int .i64 0) := by rw [HRS5.out.cell]; rfl
              have m2 : w5.cell? ⟨s, 2, none⟩ = some (.string ByteArray.empty) := by rw [HRS5.out.cell]; rfl
              have f0 : w5.frozen? ⟨s, 0, none⟩ = false := HRS5.out.frozen 0
              have f1 : w5.frozen? ⟨s, 1, none⟩ = false := HRS5.out.frozen 1
              have f2 : w5.frozen? ⟨s, 2, none⟩ = false := HRS5.out.frozen 2
              go_upto_region 10 with fail
              change Code.wp _ _ _ _ (setc3 w5 s (pvc (xi, xs')))
              have HR6 := hid (row_setc3 (show Row w5 s 38 (pvc zeroP) from HRS5.out) (.bool false) (.int .i64 xi) (.string xs'))
              have HB6 := hid (below_setc3 HB5.out s (Nat.le_refl _) (pvc (xi, xs')))
              have HLF : Hid (leastF l none (xi, xs') = some (xi, xs')) := hid (by unfold leastF; rw [HABV.out]; rfl)
              clear k0 k1 k2 f0 f1 f2 m0 m1 m2
              change Hid (Row (setc3 w5 s (pvc (xi, xs'))) s _ _) at HR6
              generalize setc3 w5 s (pvc (xi, xs')) = w6 at *
              go_wp2_with fail
              go_roundw
              case rel => first | exact ⟨t + 1, by omega, by go_num, by rw [HST.out, HLF.out]; try rfl, hid (by rw [HST.out, HLF.out]; exact HR6.out), HB6⟩ | ((repeat apply Exists.intro); exact ⟨⟨t + 1, by omega, by go_num, by rw [HST.out, HLF.out]; try rfl, hid (by rw [HST.out, HLF.out]; exact HR6.out), HB6⟩, rfl⟩)
              case measure => simp [intOf]; omega

            · simp only [Option.isSome_some]
              obtain ⟨mi, ms⟩ := m
              clear HRS
              have HOM := hid (fun (w2 : World) => order_any (xi, xs') (mi, ms) w2)
              have HBLW : Hid (blw (some (mi, ms)) (xi, xs') = decide (ordP (xi, xs') (mi, ms) < 0)) := hid rfl
              simp only at HOM
              generalize ordP (xi, xs') (mi, ms) = om at *
              have hql : q < w4.heap.size := HQW.out
              have hsl : s < w4.heap.size := HSLT.out
              have m0 : w4.cell? ⟨s, 0, none⟩ = some (.bool false) := by rw [HRS4.out.cell]; rfl
              have m1 : w4.cell? ⟨s, 1, none⟩ = some (.int .i64 mi) := by rw [HRS4.out.cell]; rfl
              have m2 : w4.cell? ⟨s, 2, none⟩ = some (.string ms) := by rw [HRS4.out.cell]; rfl
              refine wp_region_held_drew (S := fun w' => w'.cell? ⟨q, 0, none⟩ = some (.bool false) ∧ w'.cell? ⟨q, 1, none⟩ = some (.int .i64 xi) ∧ w'.cell? ⟨q, 2, none⟩ = some (.string xs') ∧ w'.cell? ⟨s, 0, none⟩ = some (.bool false) ∧ w'.cell? ⟨s, 1, none⟩ = some (.int .i64 mi) ∧ w'.cell? ⟨s, 2, none⟩ = some (.string ms)) (by kernel_rfl) (by (try dsimp only); go_keep) (fun hHeld => ?_)
              refine wpAnyH_take (i := 0) (oi := { dst := some 17, op := Op.move (Operand.tmp 3), type := 26, pos := "chunk.go:93", after := #[], guard := none }) (v := ?_) rfl (by kernel_rfl) (by kernel_rfl) (by kernel_rfl) (fun _ _ _ h => h) (Or.inl ⟨by rfl, ?_⟩) (by assumption) ?_
              rotate_left
              · (intro wS hSw; (try dsimp only at hSw); go_simp; try with_reducible rfl)
              try simp only [Act.put, List.setIfInBounds_toArray, List.set_cons_zero, List.set_cons_succ]
              refine wpAnyH_take (i := 1) (oi := { dst := some 18, op := Op.call { callee := Callee.builtin Builtin.len, args := #[Operand.tmp 17], argTypes := #[26] }, type := 3, pos := "chunk.go:93", after := #[{ on := 0, ground := Ground.data }], guard := none }) (v := ?_) rfl (by kernel_rfl) (by kernel_rfl) (by kernel_rfl) (fun _ _ _ h => h) (Or.inl ⟨by rfl, ?_⟩) (by assumption) ?_
              rotate_left
              · (intro wS hSw; (try dsimp only at hSw); go_simp; try with_reducible rfl)
              try simp only [Act.put, List.setIfInBounds_toArray, List.set_cons_zero, List.set_cons_succ]
              refine wpAnyH_take (i := 2) (oi := { dst := some 19, op := Op.binOp BinOp.eql 3 (Operand.tmp 18) (Operand.const (Value.int IntKind.i64 0)) 3, type := 4, pos := "chunk.go:93", after := #[{ on := 1, ground := Ground.data }], guard := none }) (v := ?_) rfl (by kernel_rfl) (by kernel_rfl) (by kernel_rfl) (fun _ _ _ h => h) (Or.inl ⟨by rfl, ?_⟩) (by assumption) ?_
              rotate_left
              · (intro wS hSw; (try dsimp only at hSw); go_simp; try with_reducible rfl)
              try simp only [Act.put, List.setIfInBounds_toArray, List.set_cons_zero, List.set_cons_succ]
              refine wpAnyH_take (i := 3) (oi := { dst := some 20, op := Op.move (Operand.tmp 19), type := 4, pos := "chunk.go:93", after := #[{ on := 2, ground := Ground.data }], guard := none }) (v := ?_) rfl (by kernel_rfl) (by kernel_rfl) (by kernel_rfl) (fun _ _ _ h => h) (Or.inl ⟨by rfl, ?_⟩) (by assumption) ?_
              rotate_left
              · (intro wS hSw; (try dsimp only at hSw); go_simp; try with_reducible rfl)
              try simp only [Act.put, List.setIfInBounds_toArray, List.set_cons_zero, List.set_cons_succ]
              refine wpAnyH_take (i := 4) (oi := { dst := some 21, op := Op.load 38 (Operand.tmp 7), type := 38, pos := "chunk.go:93", after := #[{ on := 3, ground := Ground.guard }], guard := some (3, false) }) (v := undef) rfl (by kernel_rfl) (by kernel_rfl) (by kernel_rfl) (fun _ _ _ h => h) (Or.inr ⟨by rfl, rfl⟩) (by assumption) ?_
              try simp only [Act.put, List.setIfInBounds_toArray, List.set_cons_zero, List.set_cons_succ]
              refine wpAnyH_take (i := 5) (oi := { dst := some 22, op := Op.move (Operand.tmp 3), type := 26, pos := "chunk.go:93", after := #[{ on := 3, ground := Ground.guard }], guard := some (3, false) }) (v := undef) rfl (by kernel_rfl) (by kernel_rfl) (by kernel_rfl) (fun _ _ _ h => h) (Or.inr ⟨by rfl, rfl⟩) (by assumption) ?_
              try simp only [Act.put, List.setIfInBounds_toArray, List.set_cons_zero, List.set_cons_succ]
              refine wpAnyH_take (i := 6) (oi := { dst := some 23, op := Op.move (Operand.tmp 3), type := 26, pos := "chunk.go:93", after := #[{ on := 3, ground := Ground.guard }], guard := some (3, false) }) (v := undef) rfl (by kernel_rfl) (by kernel_rfl) (by kernel_rfl) (fun _ _ _ h => h) (Or.inr ⟨by rfl, rfl⟩) (by assumption) ?_
              try simp only [Act.put, List.setIfInBounds_toArray, List.set_cons_zero, List.set_cons_succ]
              refine wpAnyH_take (i := 7) (oi := { dst := some 24, op := Op.call { callee := Callee.builtin Builtin.len, args := #[Operand.tmp 23], argTypes := #[26] }, type := 3, pos := "chunk.go:93", after := #[{ on := 6, ground := Ground.data }, { on := 3, ground := Ground.guard }], guard := some (3, false) }) (v := undef) rfl (by kernel_rfl) (by kernel_rfl) (by kernel_rfl) (fun _ _ _ h => h) (Or.inr ⟨by rfl, rfl⟩) (by assumption) ?_
              try simp only [Act.put, List.setIfInBounds_toArray, List.set_cons_zero, List.set_cons_succ]
              refine wpAnyH_take (i := 8) (oi := { dst := some 25, op := Op.binOp BinOp.sub 3 (Operand.tmp 24) (Operand.const (Value.int IntKind.i64 1)) 3, type := 3, pos := "chunk.go:93", after := #[{ on := 7, ground := Ground.data }, { on := 3, ground := Ground.guard }], guard := some (3, false) }) (v := undef) rfl (by kernel_rfl) (by kernel_rfl) (by kernel_rfl) (fun _ _ _ h => h) (Or.inr ⟨by rfl, rfl⟩) (by assumption) ?_
              try simp only [Act.put, List.setIfInBounds_toArray, List.set_cons_zero, List.set_cons_succ]
              refine wpAnyH_take (i := 9) (oi := { dst := some 26, op := Op.indexAddr 26 (Operand.tmp 22) (Operand.tmp 25), type := 0, pos := "chunk.go:93", after := #[{ on := 5, ground := Ground.data }, { on := 8, ground := Ground.data }, { on := 3, ground := Ground.guard }], guard := some (3, false) }) (v := undef) rfl (by kernel_rfl) (by kernel_rfl) (by kernel_rfl) (fun _ _ _ h => h) (Or.inr ⟨by rfl, rfl⟩) (by assumption) ?_
              try simp only [Act.put, List.setIfInBounds_toArray, List.set_cons_zero, List.set_cons_succ]
              refine wpAnyH_take (i := 10) (oi := { dst := some 27, op := Op.load 38 (Operand.tmp 26), type := 38, pos := "chunk.go:93", after := #[{ on := 9, ground := Ground.data }, { on := 3, ground := Ground.guard }], guard := some (3, false) }) (v := undef) rfl (by kernel_rfl) (by kernel_rfl) (by kernel_rfl) (fun _ _ _ h => h) (Or.inr ⟨by rfl, rfl⟩) (by assumption) ?_
              try simp only [Act.put, List.setIfInBounds_toArray, List.set_cons_zero, List.set_cons_succ]
              refine wpAnyH_take (i := 11) (oi := { dst := some 28, op := Op.call { callee := Callee.value (Operand.func 77), args := #[Operand.tmp 21, Operand.tmp 27], argTypes := #[38, 38] }, type := 3, pos := "chunk.go:93", after := #[{ on := 4, ground := Ground.data }, { on := 10, ground := Ground.data }, { on := 3, ground := Ground.chain }, { on := 3, ground := Ground.guard }], guard := some (3, false) }) (v := undef) rfl (by kernel_rfl) (by kernel_rfl) (by kernel_rfl) (fun _ _ _ h => h) (Or.inr ⟨by rfl, rfl⟩) (by assumption) ?_
              try simp only [Act.put, List.setIfInBounds_toArray, List.set_cons_zero, List.set_cons_succ]
              refine wpAnyH_take (i := 12) (oi := { dst := some 29, op := Op.binOp BinOp.gtr 3 (Operand.tmp 28) (Operand.const (Value.int IntKind.i64 0)) 3, type := 4, pos := "chunk.go:93", after := #[{ on := 11, ground := Ground.data }, { on := 3, ground := Ground.guard }], guard := some (3, false) }) (v := undef) rfl (by kernel_rfl) (by kernel_rfl) (by kernel_rfl) (fun _ _ _ h => h) (Or.inr ⟨by rfl, rfl⟩) (by assumption) ?_
              try simp only [Act.put, List.setIfInBounds_toArray, List.set_cons_zero, List.set_cons_succ]
              refine wpAnyH_take (i := 13) (oi := { dst := some 30, op := Op.pick (Operand.tmp 20) (Operand.const (Value.bool true)) (Operand.tmp 29), type := 4, pos := "chunk.go:93", after := #[{ on := 3, ground := Ground.data }, { on := 12, ground := Ground.data }], guard := none }) (v := ?_) rfl (by kernel_rfl) (by kernel_rfl) (by kernel_rfl) (fun _ _ _ h => h) (Or.inl ⟨by rfl, ?_⟩) (by assumption) ?_
              rotate_left
              · (intro wS hSw; (try dsimp only at hSw); go_simp; try with_reducible rfl)
              try simp only [Act.put, List.setIfInBounds_toArray, List.set_cons_zero, List.set_cons_succ]
              refine wpAnyH_take (i := 14) (oi := { dst := some 31, op := Op.move (Operand.tmp 30), type := 4, pos := "chunk.go:93", after := #[{ on := 13, ground := Ground.data }, { on := 11, ground := Ground.chain }], guard := none }) (v := ?_) rfl (by kernel_rfl) (by kernel_rfl) (by kernel_rfl) (fun _ _ _ h => h) (Or.inl ⟨by rfl, ?_⟩) (by assumption) ?_
              rotate_left
              · (intro wS hSw; (try dsimp only at hSw); go_simp; try with_reducible rfl)
              try simp only [Act.put, List.setIfInBounds_toArray, List.set_cons_zero, List.set_cons_succ]
              refine wpAnyH_take (i := 15) (oi := { dst := some 32, op := Op.move (Operand.tmp 4), type := 4, pos := "chunk.go:93", after := #[{ on := 14, ground := Ground.guard }], guard := some (14, true) }) (v := ?_) rfl (by kernel_rfl) (by kernel_rfl) (by kernel_rfl) (fun _ _ _ h => h) (Or.inl ⟨by rfl, ?_⟩) (by assumption) ?_
              rotate_left
              · (intro wS hSw; (try dsimp only at hSw); go_simp; try with_reducible rfl)
              try simp only [Act.put, List.setIfInBounds_toArray, List.set_cons_zero, List.set_cons_succ]
              refine wpAnyH_take (i := 16) (oi := { dst := some 33, op := Op.unOp UnOp.not 4 (Operand.tmp 32), type := 4, pos := "chunk.go:93", after := #[{ on := 15, ground := Ground.data }, { on := 14, ground := Ground.guard }], guard := some (14, true) }) (v := ?_) rfl (by kernel_rfl) (by kernel_rfl) (by kernel_rfl) (fun _ _ _ h => h) (Or.inl ⟨by rfl, ?_⟩) (by assumption) ?_
              rotate_left
              · (intro wS hSw; (try dsimp only at hSw); go_simp; try with_reducible rfl)
              try simp only [Act.put, List.setIfInBounds_toArray, List.set_cons_zero, List.set_cons_succ]
              refine wpAnyH_take (i := 17) (oi := { dst := some 34, op := Op.move (Operand.tmp 33), type := 4, pos := "chunk.go:93", after := #[{ on := 16, ground := Ground.data }, { on := 14, ground := Ground.chain }, { on := 14, ground := Ground.guard }], guard := some (14, true) }) (v := ?_) rfl (by kernel_rfl) (by kernel_rfl) (by kernel_rfl) (fun _ _ _ h => h) (Or.inl ⟨by rfl, ?_⟩) (by assumption) ?_
              rotate_left
              · (intro wS hSw; (try dsimp only at hSw); go_simp; try with_reducible rfl)
              try simp only [Act.put, List.setIfInBounds_toArray, List.set_cons_zero, List.set_cons_succ]
              refine wpAnyH_take (i := 18) (oi := { dst := some 35, op := Op.load 38 (Operand.tmp 7), type := 38, pos := "chunk.go:93", after := #[{ on := 17, ground := Ground.guard }], guard := some (17, false) }) (v := ?_) rfl (by kernel_rfl) (by kernel_rfl) (by kernel_rfl) (fun _ _ _ h => h) (Or.inl ⟨by rfl, ?_⟩) (by assumption) ?_
              rotate_left
              · (intro wS hSw; (try dsimp only at hSw); go_simp; try with_reducible rfl)
              try simp only [Act.put, List.setIfInBounds_toArray, List.set_cons_zero, List.set_cons_succ]
              refine wpAnyH_take (i := 19) (oi := { dst := some 36, op := Op.load 38 (Operand.tmp 5), type := 38, pos := "chunk.go:93", after := #[{ on := 17, ground := Ground.guard }], guard := some (17, false) }) (v := ?_) rfl (by kernel_rfl) (by kernel_rfl) (by kernel_rfl) (fun _ _ _ h => h) (Or.inl ⟨by rfl, ?_⟩) (by assumption) ?_
              rotate_left
              · (intro wS hSw; (try dsimp only at hSw); go_simp; try with_reducible rfl)
              try simp only [Act.put, List.setIfInBounds_toArray, List.set_cons_zero, List.set_cons_succ]
              refine wpAnyH_ready (rs := [20]) (by kernel_rfl) (by simp) ?_
              refine AllReadyH.cons (o := { dst := some 37, op := Op.call { callee := Callee.value (Operand.func 77), args := #[Operand.tmp 35, Operand.tmp 36], argTypes := #[38, 38] }, type := 3, pos := "chunk.go:93", after := #[{ on := 18, ground := Ground.data }, { on := 19, ground := Ground.data }, { on := 17, ground := Ground.chain }, { on := 17, ground := Ground.guard }], guard := some (17, false) }) rfl (fun K hK => ?_) AllReadyH.nil
              go_simp
              go_at_call 77
              refine (HOM.out _).mono ?_
              rintro e w5 ⟨rfl, hb3⟩
              have HQD := hid ((bdrew (brefl w4) 1).trans hb3)
              have q00 := (hb3.cell (p := ⟨q, 0, none⟩) hql).trans k0
              have q01 := (hb3.cell (p := ⟨q, 1, none⟩) hql).trans k1
              have q02 := (hb3.cell (p := ⟨q, 2, none⟩) hql).trans k2
              have q30 := (hb3.cell (p := ⟨s, 0, none⟩) hsl).trans m0
              have q31 := (hb3.cell (p := ⟨s, 1, none⟩) hsl).trans m1
              have q32 := (hb3.cell (p := ⟨s, 2, none⟩) hsl).trans m2
              clear hb3
              (try go_wp2_with fail)
              refine hK.out _ _ ?_ (fun hHeld2 => ?_)
              · (try dsimp only)
                go_keep
              clear hK hHeld
              clear K
              have hHeld := hHeld2
              clear hHeld2
              try simp only [Act.put, List.setIfInBounds_toArray, List.set_cons_zero, List.set_cons_succ]
              refine wpAnyH_take (i := 21) (oi := { dst := some 38, op := Op.binOp BinOp.lss 3 (Operand.tmp 37) (Operand.const (Value.int IntKind.i64 0)) 3, type := 4, pos := "chunk.go:93", after := #[{ on := 20, ground := Ground.data }, { on := 17, ground := Ground.guard }], guard := some (17, false) }) (v := ?_) rfl (by kernel_rfl) (by kernel_rfl) (by kernel_rfl) (fun _ _ _ h => h) (Or.inl ⟨by rfl, ?_⟩) (by assumption) ?_
              rotate_left
              · (intro wS hSw; (try dsimp only at hSw); go_simp; try with_reducible rfl)
              try simp only [Act.put, List.setIfInBounds_toArray, List.set_cons_zero, List.set_cons_succ]
              refine wpAnyH_take (i := 22) (oi := { dst := some 39, op := Op.pick (Operand.tmp 34) (Operand.const (Value.bool true)) (Operand.tmp 38), type := 4, pos := "chunk.go:93", after := #[{ on := 17, ground := Ground.data }, { on := 21, ground := Ground.data }, { on := 14, ground := Ground.guard }], guard := some (14, true) }) (v := ?_) rfl (by kernel_rfl) (by kernel_rfl) (by kernel_rfl) (fun _ _ _ h => h) (Or.inl ⟨by rfl, ?_⟩) (by assumption) ?_
              rotate_left
              · (intro wS hSw; (try dsimp only at hSw); go_simp; try with_reducible rfl)
              try simp only [Act.put, List.setIfInBounds_toArray, List.set_cons_zero, List.set_cons_succ]
              refine wpAnyH_take (i := 23) (oi := { dst := some 40, op := Op.pick (Operand.tmp 31) (Operand.tmp 39) (Operand.const (Value.bool false)), type := 4, pos := "chunk.go:93", after := #[{ on := 14, ground := Ground.data }, { on := 22, ground := Ground.data }], guard := none }) (v := ?_) rfl (by kernel_rfl) (by kernel_rfl) (by kernel_rfl) (fun _ _ _ h => h) (Or.inl ⟨by rfl, ?_⟩) (by assumption) ?_
              rotate_left
              · (intro wS hSw; (try dsimp only at hSw); go_simp; try with_reducible rfl)
              try simp only [Act.put, List.setIfInBounds_toArray, List.set_cons_zero, List.set_cons_succ]
              refine wpAnyH_done (by kernel_rfl) ?_ _
              clear hHeld
              clear q00 q01 q02 q30 q31 q32 hql hsl
              have HRS5 := hid (HRS4.out.mono HQD.out)
              have HB5 := hid (HB4.out.trans (HQD.out.mono HSZ4.out))
              have j0 := (HQD.out.cell (p := ⟨q, 0, none⟩) HQW.out).trans k0
              have j1 := (HQD.out.cell (p := ⟨q, 1, none⟩) HQW.out).trans k1
              have j2 := (HQD.out.cell (p := ⟨q, 2, none⟩) HQW.out).trans k2
              clear k0 k1 k2 m0 m1 m2
              have k0 := j0
              have k1 := j1
              have k2 := j2
              clear j0 j1 j2
              by_cases hom : om < 0
              · have ho2 : decide (om < 0) = true := by simp [hom]
                (try rw [ho2])
                have m0 : w5.cell? ⟨s, 0, none⟩ = some (.bool false) := by rw [HRS5.out.cell]; rfl
                have m1 : w5.cell? ⟨s, 1, none⟩ = some (.int .i64 mi) := by rw [HRS5.out.cell]; rfl
                have m2 : w5.cell? ⟨s, 2, none⟩ = some (.string ms) := by rw [HRS5.out.cell]; rfl
                have f0 : w5.frozen? ⟨s, 0, none⟩ = false := HRS5.out.frozen 0
                have f1 : w5.frozen? ⟨s, 1, none⟩ = false := HRS5.out.frozen 1
                have f2 : w5.frozen? ⟨s, 2, none⟩ = false := HRS5.out.frozen 2
                go_upto_region 10 with fail
                change Code.wp _ _ _ _ (setc3 w5 s (pvc (xi, xs')))
                have HR6 := hid (row_setc3 (show Row w5 s 38 (pvc (mi, ms)) from HRS5.out) (.bool false) (.int .i64 xi) (.string xs'))
                have HB6 := hid (below_setc3 HB5.out s (Nat.le_refl _) (pvc (xi, xs')))
                have HLF : Hid (leastF l (some (mi, ms)) (xi, xs') = some (xi, xs')) := hid (by unfold leastF; rw [HABV.out]; rw [HBLW.out]; simp [hom])
                clear k0 k1 k2 f0 f1 f2 m0 m1 m2
                change Hid (Row (setc3 w5 s (pvc (xi, xs'))) s _ _) at HR6
                generalize setc3 w5 s (pvc (xi, xs')) = w6 at *
                go_wp2_with fail
                go_roundw
                case rel => first | exact ⟨t + 1, by omega, by go_num, by rw [HST.out, HLF.out]; try rfl, hid (by rw [HST.out, HLF.out]; exact HR6.out), HB6⟩ | ((repeat apply Exists.intro); exact ⟨⟨t + 1, by omega, by go_num, by rw [HST.out, HLF.out]; try rfl, hid (by rw [HST.out, HLF.out]; exact HR6.out), HB6⟩, rfl⟩)
                case measure => simp [intOf]; omega

              · have ho2 : decide (om < 0) = false := by simp [hom]
                (try rw [ho2])
                have HLF : Hid (leastF l (some (mi, ms)) (xi, xs') = (some (mi, ms))) := hid (by unfold leastF; rw [HABV.out]; rw [HBLW.out]; simp [hom])
                clear k0 k1 k2
                go_wp2_with fail
                go_roundw
                case rel => first | exact ⟨t + 1, by omega, by go_num, by rw [HST.out, HLF.out]; try rfl, hid (by rw [HST.out, HLF.out]; exact HRS5.out), HB5⟩ | ((repeat apply Exists.intro); exact ⟨⟨t + 1, by omega, by go_num, by rw [HST.out, HLF.out]; try rfl, hid (by rw [HST.out, HLF.out]; exact HRS5.out), HB5⟩, rfl⟩) | exact ⟨_, _, _, ⟨t + 1, by omega, by go_num, by rw [HST.out, HLF.out]; try rfl, hid (by rw [HST.out, HLF.out]; exact HRS5.out)⟩, rfl, rfl, rfl⟩
                case measure => simp [intOf]; omega

          · obtain rfl : t = vs.length := by omega
            rw [List.take_length] at HRS
            simp only [List.take_length]
            generalize leastP l vs = acc at *
            rcases acc with _ | m
            · simp only [Option.isSome_none]
              have HFIN := hid (show R = os from HDS.out)
              go_wp2_with fail
              go_ret
              refine ⟨_, rfl, ?_, ?_⟩
              · rw [HFIN.out, HJ.out]
                exact owns3_below HOW.out (by rw [HSS.out]; exact HBZ.out)
              · exact HB.out.trans (by have h := HBZ.out; exact h.mono HWS.out)
            · simp only [Option.isSome_some]
              have HFIN := hid (show R = diffs vs (257 - (0 + 1)) (os ++ [m]) from HDS.out)
              obtain ⟨mi, ms⟩ := m
              have k0 : wr.cell? ⟨s, 0, none⟩ = some (.bool false) := by rw [HRS.out.cell]; rfl
              have k1 : wr.cell? ⟨s, 1, none⟩ = some (.int .i64 mi) := by rw [HRS.out.cell]; rfl
              have k2 : wr.cell? ⟨s, 2, none⟩ = some (.string ms) := by rw [HRS.out.cell]; rfl
              have HOWZ := hid (owns3_below HOW.out (show Below w2.heap.size w2 wr by rw [HSS.out]; exact HBZ.out))
              have HBZW := hid (HB.out.trans (by have h := HBZ.out; exact h.mono HWS.out))
              have HSZW := hid HBZW.out.size
              go_wp2_with (at_builtin; refine wpList_append3K rfl (.tmp 46) (.tmp 48) rfl 38 [.bool false, .int .i64 0, .string ByteArray.empty] 32 Tryz.underlying26 Tryz.infoCell rfl rfl rfl HOWZ.out HSZW.out (by intro u hu; simp at hu; rcases hu with rfl | rfl | rfl <;> rfl) (by unfold maxLen; omega) (by omega) ?_; intro v6 w6 ho6 hb6 hz6 hk6; have HO6 := hid ho6; have HB6 := hid hb6; clear ho6 hb6 hz6 hk6 k0 k1 k2)
              obtain ⟨O6, co6, rfl⟩ := owns3_form HO6.out
              go_roundw
              case rel =>
                have G1 : Hid ((os ++ [(mi, ms)]).length = 0 + 1) := hid (by rw [List.length_append, HJ.out]; rfl)
                exact ⟨os ++ [(mi, ms)], by have := G1.out; omega, hid (by rw [G1.out, cellsP_snoc]; exact HO6.out), hid (by rw [G1.out]; exact HFIN.out.symm), hid (HBZW.out.trans HB6.out)⟩
              case measure => simp [lenV] <;> omega

      · obtain ⟨v, hv⟩ : ∃ v, j = v + 1 := ⟨j - 1, by omega⟩
        obtain ⟨l, hl2⟩ : ∃ l, os.getLast? = l := ⟨_, rfl⟩
        obtain ⟨Y, hY⟩ : ∃ Y, os.getD v dfP = Y := ⟨_, rfl⟩
        obtain ⟨yi, ys'⟩ := Y
        have HYD := hid hY
        have HLL : Hid (l = some (yi, ys')) := hid (by rw [← hl2, getLast_getD os v (by rw [HJ.out]; exact hv), hY])
        rw [hl2] at HDS
        clear hl2 hY
        have i0 : ((j : Int) == 0) = false := by simp; omega
        have ia : (j : Int) - 1 = (v : Int) := by omega
        have iw : IntKind.i64.wrap ((j : Int) - 1) = (v : Int) := by rw [ia, IntKind.wrap_i64]; omega
        have iw2 : IntKind.i64.wrap (v : Int) = (v : Int) := by rw [IntKind.wrap_i64]; omega
        have ig1 : (0 : Int) ≤ (v : Int) := by omega
        have ig2 : (v : Int) < (j : Int) := by omega
        have HV := hid hv
        clear hv
        go_loopw [4, 13] (fun f i wz => ∃ t : Nat, t ≤ vs.length ∧ i = .int .i64 t ∧ f = .bool (leastP l (vs.take t)).isSome ∧ Hid (Row wz s 38 (pvo (leastP l (vs.take t)))) ∧ Hid (Below s w2 wz)) (fun _ i _ => vs.length - (intOf i).toNat)
        case atStart => exact ⟨0, by omega, rfl, rfl, hid HRW.out, HBA⟩
        case round =>
          obtain ⟨t, ht, rfl, rfl, HRS, HBZ⟩ := hrel
          have HSL := hid HBZ.out.size
          have HWZ := hid (show s < wr.heap.size from by
            have k0 : wr.cell? ⟨s, 0, none⟩ = some (.bool false) := by rw [HRS.out.cell]; rfl
            exact World.block_lt_of_cell? wr _ k0)
          by_cases hlt : t < vs.length
          · obtain ⟨b, o, rfl, hcells⟩ := (HU2.out.mono (by rw [HSS.out]; exact HBZ.out)).atP (by omega)
            obtain ⟨l0, l1, l2⟩ := hcells t hlt
            have HST := hid (leastP_snoc l (vs.take t) (vs.getD t dfP))
            rw [← take_snoc vs dfP t hlt] at HST
            clear hcells
            generalize leastP l (vs.take t) = acc at *
            generalize vs.getD t dfP = X at *
            obtain ⟨xi, xs'⟩ := X
            simp only at l1 l2 HST
            have HBA4 := hid ((brefl wr).alloc (Nat.le_refl _) (.cells #[.bool false, .int .i64 xi, .string xs'] 38))
            have HRX : Hid (Row (wr.alloc (.cells #[.bool false, .int .i64 xi, .string xs'] 38)) wr.heap.size 38 [.bool false, .int .i64 xi, .string xs']) := hid (by unfold Row; rw [heap_alloc_new])
            have HB4 := hid (HBZ.out.trans (HBA4.out.mono (Nat.le_of_lt HWZ.out)))
            have HRS4 := hid (HRS.out.mono HBA4.out)
            have HSZ4 := hid (Nat.le_trans (Nat.le_of_lt HWZ.out) HBA4.out.size)
            obtain ⟨g, go, hOO, hycells⟩ := (HO2.out.mono (by rw [HSS.out]; exact HBZ.out)).atP (by omega)
            subst hOO
            obtain ⟨y0, y1, y2⟩ := hycells v (by rw [HJ.out, HV.out]; omega)
            have hgw := World.block_lt_of_cell? wr _ y0
            simp only at hgw
            replace y0 := (HBA4.out.cell (p := ⟨g, go + v * 3, none⟩) hgw).trans y0
            replace y1 := (HBA4.out.cell (p := ⟨g, go + v * 3 + 1, none⟩) hgw).trans y1
            replace y2 := (HBA4.out.cell (p := ⟨g, go + v * 3 + 2, none⟩) hgw).trans y2
            have HGW := hid (Nat.lt_of_lt_of_le hgw HBA4.out.size)
            clear hycells hgw
            rw [HYD.out] at y1 y2
            simp only at y1 y2
            go_upto_region 8 with fail
            generalize wr.alloc (.cells #[.bool false, .int .i64 xi, .string xs'] 38) = w4 at *
            have k0 : w4.cell? ⟨wr.heap.size, 0, none⟩ = some (.bool false) := by rw [HRX.out.cell]; rfl
            have k1 : w4.cell? ⟨wr.heap.size, 1, none⟩ = some (.int .i64 xi) := by rw [HRX.out.cell]; rfl
            have k2 : w4.cell? ⟨wr.heap.size, 2, none⟩ = some (.string xs') := by rw [HRX.out.cell]; rfl
            have HQW := hid (World.block_lt_of_cell? w4 _ k0)
            simp only at HQW
            clear l0 l1 l2
            have hsl : s < w4.heap.size := Nat.lt_trans HWZ.out HQW.out
            have HSLT := hid hsl
            clear hsl
            have HOY := hid (fun (w2 : World) => order_any (xi, xs') (yi, ys') w2)
            have HABV : Hid (abv l (xi, xs') = decide (0 < ordP (xi, xs') (yi, ys'))) := hid (by rw [HLL.out]; rfl)
            simp only at HOY
            generalize ordP (xi, xs') (yi, ys') = oy at *
            generalize wr.heap.size = q at *
            clear HRS
            by_cases hoy : 0 < oy
            · rcases acc with _ | m
              · simp only [Option.isSome_none]
                have ho1 : decide (oy > 0) = true := by simp; omega
                have hql : q < w4.heap.size := HQW.out
                have hsl : s < w4.heap.size := HSLT.out
                have hgl : g < w4.heap.size := HGW.out
                refine wp_region_held_drew (S := fun w' => w'.cell? ⟨q, 0, none⟩ = some (.bool false) ∧ w'.cell? ⟨q, 1, none⟩ = some (.int .i64 xi) ∧ w'.cell? ⟨q, 2, none⟩ = some (.string xs') ∧ w'.cell? ⟨g, go + v * 3, none⟩ = some (.bool false) ∧ w'.cell? ⟨g, go + v * 3 + 1, none⟩ = some (.int .i64 yi) ∧ w'.cell? ⟨g, go + v * 3 + 2, none⟩ = some (.string ys')) (by kernel_rfl) (by (try dsimp only); go_keep) (fun hHeld => ?_)
                refine wpAnyH_take (i := 0) (oi := { dst := some 17, op := Op.move (Operand.tmp 3), type := 26, pos := "chunk.go:93", after := #[], guard := none }) (v := ?_) rfl (by kernel_rfl) (by kernel_rfl) (by kernel_rfl) (fun _ _ _ h => h) (Or.inl ⟨by rfl, ?_⟩) (by assumption) ?_
                rotate_left
                · (intro wS hSw; (try dsimp only at hSw); go_simp; try with_reducible rfl)
                try simp only [Act.put, List.setIfInBounds_toArray, List.set_cons_zero, List.set_cons_succ]
                refine wpAnyH_take (i := 1) (oi := { dst := some 18, op := Op.call { callee := Callee.builtin Builtin.len, args := #[Operand.tmp 17], argTypes := #[26] }, type := 3, pos := "chunk.go:93", after := #[{ on := 0, ground := Ground.data }], guard := none }) (v := ?_) rfl (by kernel_rfl) (by kernel_rfl) (by kernel_rfl) (fun _ _ _ h => h) (Or.inl ⟨by rfl, ?_⟩) (by assumption) ?_
                rotate_left
                · (intro wS hSw; (try dsimp only at hSw); go_simp; try with_reducible rfl)
                try simp only [Act.put, List.setIfInBounds_toArray, List.set_cons_zero, List.set_cons_succ]
                refine wpAnyH_take (i := 2) (oi := { dst := some 19, op := Op.binOp BinOp.eql 3 (Operand.tmp 18) (Operand.const (Value.int IntKind.i64 0)) 3, type := 4, pos := "chunk.go:93", after := #[{ on := 1, ground := Ground.data }], guard := none }) (v := ?_) rfl (by kernel_rfl) (by kernel_rfl) (by kernel_rfl) (fun _ _ _ h => h) (Or.inl ⟨by rfl, ?_⟩) (by assumption) ?_
                rotate_left
                · (intro wS hSw; (try dsimp only at hSw); go_simp; try with_reducible rfl)
                try simp only [Act.put, List.setIfInBounds_toArray, List.set_cons_zero, List.set_cons_succ]
                refine wpAnyH_take (i := 3) (oi := { dst := some 20, op := Op.move (Operand.tmp 19), type := 4, pos := "chunk.go:93", after := #[{ on := 2, ground := Ground.data }], guard := none }) (v := ?_) rfl (by kernel_rfl) (by kernel_rfl) (by kernel_rfl) (fun _ _ _ h => h) (Or.inl ⟨by rfl, ?_⟩) (by assumption) ?_
                rotate_left
                · (intro wS hSw; (try dsimp only at hSw); go_simp; try with_reducible rfl)
                try simp only [Act.put, List.setIfInBounds_toArray, List.set_cons_zero, List.set_cons_succ]
                refine wpAnyH_take (i := 4) (oi := { dst := some 21, op := Op.load 38 (Operand.tmp 7), type := 38, pos := "chunk.go:93", after := #[{ on := 3, ground := Ground.guard }], guard := some (3, false) }) (v := ?_) rfl (by kernel_rfl) (by kernel_rfl) (by kernel_rfl) (fun _ _ _ h => h) (Or.inl ⟨by rfl, ?_⟩) (by assumption) ?_
                rotate_left
                · (intro wS hSw; (try dsimp only at hSw); go_simp; try with_reducible rfl)
                try simp only [Act.put, List.setIfInBounds_toArray, List.set_cons_zero, List.set_cons_succ]
                refine wpAnyH_take (i := 5) (oi := { dst := some 22, op := Op.move (Operand.tmp 3), type := 26, pos := "chunk.go:93", after := #[{ on := 3, ground := Ground.guard }], guard := some (3, false) }) (v := ?_) rfl (by kernel_rfl) (by kernel_rfl) (by kernel_rfl) (fun _ _ _ h => h) (Or.inl ⟨by rfl, ?_⟩) (by assumption) ?_
                rotate_left
                · (intro wS hSw; (try dsimp only at hSw); go_simp; try with_reducible rfl)
                try simp only [Act.put, List.setIfInBounds_toArray, List.set_cons_zero, List.set_cons_succ]
                refine wpAnyH_take (i := 6) (oi := { dst := some 23, op := Op.move (Operand.tmp 3), type := 26, pos := "chunk.go:93", after := #[{ on := 3, ground := Ground.guard }], guard := some (3, false) }) (v := ?_) rfl (by kernel_rfl) (by kernel_rfl) (by kernel_rfl) (fun _ _ _ h => h) (Or.inl ⟨by rfl, ?_⟩) (by assumption) ?_
                rotate_left
                · (intro wS hSw; (try dsimp only at hSw); go_simp; try with_reducible rfl)
                try simp only [Act.put, List.setIfInBounds_toArray, List.set_cons_zero, List.set_cons_succ]
                refine wpAnyH_take (i := 7) (oi := { dst := some 24, op := Op.call { callee := Callee.builtin Builtin.len, args := #[Operand.tmp 23], argTypes := #[26] }, type := 3, pos := "chunk.go:93", after := #[{ on := 6, ground := Ground.data }, { on := 3, ground := Ground.guard }], guard := some (3, false) }) (v := ?_) rfl (by kernel_rfl) (by kernel_rfl) (by kernel_rfl) (fun _ _ _ h => h) (Or.inl ⟨by rfl, ?_⟩) (by assumption) ?_
                rotate_left
                · (intro wS hSw; (try dsimp only at hSw); go_simp; try with_reducible rfl)
                try simp only [Act.put, List.setIfInBounds_toArray, List.set_cons_zero, List.set_cons_succ]
                refine wpAnyH_take (i := 8) (oi := { dst := some 25, op := Op.binOp BinOp.sub 3 (Operand.tmp 24) (Operand.const (Value.int IntKind.i64 1)) 3, type := 3, pos := "chunk.go:93", after := #[{ on := 7, ground := Ground.data }, { on := 3, ground := Ground.guard }], guard := some (3, false) }) (v := ?_) rfl (by kernel_rfl) (by kernel_rfl) (by kernel_rfl) (fun _ _ _ h => h) (Or.inl ⟨by rfl, ?_⟩) (by assumption) ?_
                rotate_left
                · (intro wS hSw; (try dsimp only at hSw); go_simp; try with_reducible rfl)
                try simp only [Act.put, List.setIfInBounds_toArray, List.set_cons_zero, List.set_cons_succ]
                refine wpAnyH_take (i := 9) (oi := { dst := some 26, op := Op.indexAddr 26 (Operand.tmp 22) (Operand.tmp 25), type := 0, pos := "chunk.go:93", after := #[{ on := 5, ground := Ground.data }, { on := 8, ground := Ground.data }, { on := 3, ground := Ground.guard }], guard := some (3, false) }) (v := ?_) rfl (by kernel_rfl) (by kernel_rfl) (by kernel_rfl) (fun _ _ _ h => h) (Or.inl ⟨by rfl, ?_⟩) (by assumption) ?_
                rotate_left
                · (intro wS hSw; (try dsimp only at hSw); go_simp; try with_reducible rfl)
                try simp only [Act.put, List.setIfInBounds_toArray, List.set_cons_zero, List.set_cons_succ]
                refine wpAnyH_take (i := 10) (oi := { dst := some 27, op := Op.load 38 (Operand.tmp 26), type := 38, pos := "chunk.go:93", after := #[{ on := 9, ground := Ground.data }, { on := 3, ground := Ground.guard }], guard := some (3, false) }) (v := ?_) rfl (by kernel_rfl) (by kernel_rfl) (by kernel_rfl) (fun _ _ _ h => h) (Or.inl ⟨by rfl, ?_⟩) (by assumption) ?_
                rotate_left
                · (intro wS hSw; (try dsimp only at hSw); go_simp; try with_reducible rfl)
                try simp only [Act.put, List.setIfInBounds_toArray, List.set_cons_zero, List.set_cons_succ]
                refine wpAnyH_ready (rs := [11]) (by kernel_rfl) (by simp) ?_
                refine AllReadyH.cons (o := { dst := some 28, op := Op.call { callee := Callee.value (Operand.func 77), args := #[Operand.tmp 21, Operand.tmp 27], argTypes := #[38, 38] }, type := 3, pos := "chunk.go:93", after := #[{ on := 4, ground := Ground.data }, { on := 10, ground := Ground.data }, { on := 3, ground := Ground.chain }, { on := 3, ground := Ground.guard }], guard := some (3, false) }) rfl (fun K hK => ?_) AllReadyH.nil
                go_simp
                go_at_call 77
                refine (HOY.out _).mono ?_
                rintro e w5 ⟨rfl, hb3⟩
                have HQD := hid ((bdrew (brefl w4) 1).trans hb3)
                have q00 := (hb3.cell (p := ⟨q, 0, none⟩) hql).trans k0
                have q01 := (hb3.cell (p := ⟨q, 1, none⟩) hql).trans k1
                have q02 := (hb3.cell (p := ⟨q, 2, none⟩) hql).trans k2
                have q30 := (hb3.cell (p := ⟨g, go + v * 3, none⟩) hgl).trans y0
                have q31 := (hb3.cell (p := ⟨g, go + v * 3 + 1, none⟩) hgl).trans y1
                have q32 := (hb3.cell (p := ⟨g, go + v * 3 + 2, none⟩) hgl).trans y2
                clear hb3
                (try go_wp2_with fail)
                refine hK.out _ _ ?_ (fun hHeld2 => ?_)
                · (try dsimp only)
                  go_keep
                clear hK hHeld
                clear K
                have hHeld := hHeld2
                clear hHeld2
                try simp only [Act.put, List.setIfInBounds_toArray, List.set_cons_zero, List.set_cons_succ]
                refine wpAnyH_take (i := 12) (oi := { dst := some 29, op := Op.binOp BinOp.gtr 3 (Operand.tmp 28) (Operand.const (Value.int IntKind.i64 0)) 3, type := 4, pos := "chunk.go:93", after := #[{ on := 11, ground := Ground.data }, { on := 3, ground := Ground.guard }], guard := some (3, false) }) (v := ?_) rfl (by kernel_rfl) (by kernel_rfl) (by kernel_rfl) (fun _ _ _ h => h) (Or.inl ⟨by rfl, ?_⟩) (by assumption) ?_
                rotate_left
                · (intro wS hSw; (try dsimp only at hSw); go_simp; try with_reducible rfl)
                try simp only [Act.put, List.setIfInBounds_toArray, List.set_cons_zero, List.set_cons_succ]
                refine wpAnyH_take (i := 13) (oi := { dst := some 30, op := Op.pick (Operand.tmp 20) (Operand.const (Value.bool true)) (Operand.tmp 29), type := 4, pos := "chunk.go:93", after := #[{ on := 3, ground := Ground.data }, { on := 12, ground := Ground.data }], guard := none }) (v := ?_) rfl (by kernel_rfl) (by kernel_rfl) (by kernel_rfl) (fun _ _ _ h => h) (Or.inl ⟨by rfl, ?_⟩) (by assumption) ?_
                rotate_left
                · (intro wS hSw; (try dsimp only at hSw); go_simp; try with_reducible rfl)
                try simp only [Act.put, List.setIfInBounds_toArray, List.set_cons_zero, List.set_cons_succ]
                refine wpAnyH_take (i := 14) (oi := { dst := some 31, op := Op.move (Operand.tmp 30), type := 4, pos := "chunk.go:93", after := #[{ on := 13, ground := Ground.data }, { on := 11, ground := Ground.chain }], guard := none }) (v := ?_) rfl (by kernel_rfl) (by kernel_rfl) (by kernel_rfl) (fun _ _ _ h => h) (Or.inl ⟨by rfl, ?_⟩) (by assumption) ?_
                rotate_left
                · (intro wS hSw; (try dsimp only at hSw); go_simp; try with_reducible rfl)
                try simp only [Act.put, List.setIfInBounds_toArray, List.set_cons_zero, List.set_cons_succ]
                refine wpAnyH_take (i := 15) (oi := { dst := some 32, op := Op.move (Operand.tmp 4), type := 4, pos := "chunk.go:93", after := #[{ on := 14, ground := Ground.guard }], guard := some (14, true) }) (v := ?_) rfl (by kernel_rfl) (by kernel_rfl) (by kernel_rfl) (fun _ _ _ h => h) (Or.inl ⟨by rfl, ?_⟩) (by assumption) ?_
                rotate_left
                · (intro wS hSw; (try dsimp only at hSw); go_simp; try with_reducible rfl)
                try simp only [Act.put, List.setIfInBounds_toArray, List.set_cons_zero, List.set_cons_succ]
                refine wpAnyH_take (i := 16) (oi := { dst := some 33, op := Op.unOp UnOp.not 4 (Operand.tmp 32), type := 4, pos := "chunk.go:93", after := #[{ on := 15, ground := Ground.data }, { on := 14, ground := Ground.guard }], guard := some (14, true) }) (v := ?_) rfl (by kernel_rfl) (by kernel_rfl) (by kernel_rfl) (fun _ _ _ h => h) (Or.inl ⟨by rfl, ?_⟩) (by assumption) ?_
                rotate_left
                · (intro wS hSw; (try dsimp only at hSw); go_simp; try with_reducible rfl)
                try simp only [Act.put, List.setIfInBounds_toArray, List.set_cons_zero, List.set_cons_succ]
                refine wpAnyH_take (i := 17) (oi := { dst := some 34, op := Op.move (Operand.tmp 33), type := 4, pos := "chunk.go:93", after := #[{ on := 16, ground := Ground.data }, { on := 14, ground := Ground.chain }, { on := 14, ground := Ground.guard }], guard := some (14, true) }) (v := ?_) rfl (by kernel_rfl) (by kernel_rfl) (by kernel_rfl) (fun _ _ _ h => h) (Or.inl ⟨by rfl, ?_⟩) (by assumption) ?_
                rotate_left
                · (intro wS hSw; (try dsimp only at hSw); go_simp; try with_reducible rfl)
                try simp only [Act.put, List.setIfInBounds_toArray, List.set_cons_zero, List.set_cons_succ]
                refine wpAnyH_take (i := 18) (oi := { dst := some 35, op := Op.load 38 (Operand.tmp 7), type := 38, pos := "chunk.go:93", after := #[{ on := 17, ground := Ground.guard }], guard := some (17, false) }) (v := undef) rfl (by kernel_rfl) (by kernel_rfl) (by kernel_rfl) (fun _ _ _ h => h) (Or.inr ⟨by rfl, rfl⟩) (by assumption) ?_
                try simp only [Act.put, List.setIfInBounds_toArray, List.set_cons_zero, List.set_cons_succ]
                refine wpAnyH_take (i := 19) (oi := { dst := some 36, op := Op.load 38 (Operand.tmp 5), type := 38, pos := "chunk.go:93", after := #[{ on := 17, ground := Ground.guard }], guard := some (17, false) }) (v := undef) rfl (by kernel_rfl) (by kernel_rfl) (by kernel_rfl) (fun _ _ _ h => h) (Or.inr ⟨by rfl, rfl⟩) (by assumption) ?_
                try simp only [Act.put, List.setIfInBounds_toArray, List.set_cons_zero, List.set_cons_succ]
                refine wpAnyH_take (i := 20) (oi := { dst := some 37, op := Op.call { callee := Callee.value (Operand.func 77), args := #[Operand.tmp 35, Operand.tmp 36], argTypes := #[38, 38] }, type := 3, pos := "chunk.go:93", after := #[{ on := 18, ground := Ground.data }, { on := 19, ground := Ground.data }, { on := 17, ground := Ground.chain }, { on := 17, ground := Ground.guard }], guard := some (17, false) }) (v := undef) rfl (by kernel_rfl) (by kernel_rfl) (by kernel_rfl) (fun _ _ _ h => h) (Or.inr ⟨by rfl, rfl⟩) (by assumption) ?_
                try simp only [Act.put, List.setIfInBounds_toArray, List.set_cons_zero, List.set_cons_succ]
                refine wpAnyH_take (i := 21) (oi := { dst := some 38, op := Op.binOp BinOp.lss 3 (Operand.tmp 37) (Operand.const (Value.int IntKind.i64 0)) 3, type := 4, pos := "chunk.go:93", after := #[{ on := 20, ground := Ground.data }, { on := 17, ground := Ground.guard }], guard := some (17, false) }) (v := undef) rfl (by kernel_rfl) (by kernel_rfl) (by kernel_rfl) (fun _ _ _ h => h) (Or.inr ⟨by rfl, rfl⟩) (by assumption) ?_
                try simp only [Act.put, List.setIfInBounds_toArray, List.set_cons_zero, List.set_cons_succ]
                refine wpAnyH_take (i := 22) (oi := { dst := some 39, op := Op.pick (Operand.tmp 34) (Operand.const (Value.bool true)) (Operand.tmp 38), type := 4, pos := "chunk.go:93", after := #[{ on := 17, ground := Ground.data }, { on := 21, ground := Ground.data }, { on := 14, ground := Ground.guard }], guard := some (14, true) }) (v := ?_) rfl (by kernel_rfl) (by kernel_rfl) (by kernel_rfl) (fun _ _ _ h => h) (Or.inl ⟨by rfl, ?_⟩) (by assumption) ?_
                rotate_left
                · (intro wS hSw; (try dsimp only at hSw); go_simp; try with_reducible rfl)
                try simp only [Act.put, List.setIfInBounds_toArray, List.set_cons_zero, List.set_cons_succ]
                refine wpAnyH_take (i := 23) (oi := { dst := some 40, op := Op.pick (Operand.tmp 31) (Operand.tmp 39) (Operand.const (Value.bool false)), type := 4, pos := "chunk.go:93", after := #[{ on := 14, ground := Ground.data }, { on := 22, ground := Ground.data }], guard := none }) (v := ?_) rfl (by kernel_rfl) (by kernel_rfl) (by kernel_rfl) (fun _ _ _ h => h) (Or.inl ⟨by rfl, ?_⟩) (by assumption) ?_
                rotate_left
                · (intro wS hSw; (try dsimp only at hSw); go_simp; try with_reducible rfl)
                try simp only [Act.put, List.setIfInBounds_toArray, List.set_cons_zero, List.set_cons_succ]
                refine wpAnyH_done (by kernel_rfl) ?_ _
                clear hHeld
                clear q00 q01 q02 q30 q31 q32 hql hsl hgl
                have HRS5 := hid (HRS4.out.mono HQD.out)
                have HB5 := hid (HB4.out.trans (HQD.out.mono HSZ4.out))
                have j0 := (HQD.out.cell (p := ⟨q, 0, none⟩) HQW.out).trans k0
                have j1 := (HQD.out.cell (p := ⟨q, 1, none⟩) HQW.out).trans k1
                have j2 := (HQD.out.cell (p := ⟨q, 2, none⟩) HQW.out).trans k2
                clear k0 k1 k2 y0 y1 y2
                have k0 := j0
                have k1 := j1
                have k2 := j2
                clear j0 j1 j2
                (try rw [ho1])
                have m0 : w5.cell? ⟨s, 0, none⟩ = some (.bool false) := by rw [HRS5.out.cell]; rfl
                have m1 : w5.cell? ⟨s, 1, none⟩ = some (.int .i64 0) := by rw [HRS5.out.cell]; rfl
                have m2 : w5.cell? ⟨s, 2, none⟩ = some (.string ByteArray.empty) := by rw [HRS5.out.cell]; rfl
                have f0 : w5.frozen? ⟨s, 0, none⟩ = false := HRS5.out.frozen 0
                have f1 : w5.frozen? ⟨s, 1, none⟩ = false := HRS5.out.frozen 1
                have f2 : w5.frozen? ⟨s, 2, none⟩ = false := HRS5.out.frozen 2
                go_upto_region 10 with fail
                change Code.wp _ _ _ _ (setc3 w5 s (pvc (xi, xs')))
                have HR6 := hid (row_setc3 (show Row w5 s 38 (pvc zeroP) from HRS5.out) (.bool false) (.int .i64 xi) (.string xs'))
                have HB6 := hid (below_setc3 HB5.out s (Nat.le_refl _) (pvc (xi, xs')))
                have HLF : Hid (leastF l none (xi, xs') = some (xi, xs')) := hid (by unfold leastF; rw [HABV.out]; simp [hoy]; rfl)
                clear k0 k1 k2 f0 f1 f2 m0 m1 m2
                change Hid (Row (setc3 w5 s (pvc (xi, xs'))) s _ _) at HR6
                generalize setc3 w5 s (pvc (xi, xs')) = w6 at *
                go_wp2_with fail
                go_roundw
                case rel => first | exact ⟨t + 1, by omega, by go_num, by rw [HST.out, HLF.out]; try rfl, hid (by rw [HST.out, HLF.out]; exact HR6.out), HB6⟩ | ((repeat apply Exists.intro); exact ⟨⟨t + 1, by omega, by go_num, by rw [HST.out, HLF.out]; try rfl, hid (by rw [HST.out, HLF.out]; exact HR6.out), HB6⟩, rfl⟩)
                case measure => simp [intOf]; omega

              · simp only [Option.isSome_some]
                have ho1 : decide (oy > 0) = true := by simp; omega
                obtain ⟨mi, ms⟩ := m
                have HOM := hid (fun (w2 : World) => order_any (xi, xs') (mi, ms) w2)
                have HBLW : Hid (blw (some (mi, ms)) (xi, xs') = decide (ordP (xi, xs') (mi, ms) < 0)) := hid rfl
                simp only at HOM
                generalize ordP (xi, xs') (mi, ms) = om at *
                have hql : q < w4.heap.size := HQW.out
                have hsl : s < w4.heap.size := HSLT.out
                have hgl : g < w4.heap.size := HGW.out
                have m0 : w4.cell? ⟨s, 0, none⟩ = some (.bool false) := by rw [HRS4.out.cell]; rfl
                have m1 : w4.cell? ⟨s, 1, none⟩ = some (.int .i64 mi) := by rw [HRS4.out.cell]; rfl
                have m2 : w4.cell? ⟨s, 2, none⟩ = some (.string ms) := by rw [HRS4.out.cell]; rfl
                refine wp_region_held_drew (S := fun w' => w'.cell? ⟨q, 0, none⟩ = some (.bool false) ∧ w'.cell? ⟨q, 1, none⟩ = some (.int .i64 xi) ∧ w'.cell? ⟨q, 2, none⟩ = some (.string xs') ∧ w'.cell? ⟨s, 0, none⟩ = some (.bool false) ∧ w'.cell? ⟨s, 1, none⟩ = some (.int .i64 mi) ∧ w'.cell? ⟨s, 2, none⟩ = some (.string ms) ∧ w'.cell? ⟨g, go + v * 3, none⟩ = some (.bool false) ∧ w'.cell? ⟨g, go + v * 3 + 1, none⟩ = some (.int .i64 yi) ∧ w'.cell? ⟨g, go + v * 3 + 2, none⟩ = some (.string ys')) (by kernel_rfl) (by (try dsimp only); go_keep) (fun hHeld => ?_)
                refine wpAnyH_take (i := 0) (oi := { dst := some 17, op := Op.move (Operand.tmp 3), type := 26, pos := "chunk.go:93", after := #[], guard := none }) (v := ?_) rfl (by kernel_rfl) (by kernel_rfl) (by kernel_rfl) (fun _ _ _ h => h) (Or.inl ⟨by rfl, ?_⟩) (by assumption) ?_
                rotate_left
                · (intro wS hSw; (try dsimp only at hSw); go_simp; try with_reducible rfl)
                try simp only [Act.put, List.setIfInBounds_toArray, List.set_cons_zero, List.set_cons_succ]
                refine wpAnyH_take (i := 1) (oi := { dst := some 18, op := Op.call { callee := Callee.builtin Builtin.len, args := #[Operand.tmp 17], argTypes := #[26] }, type := 3, pos := "chunk.go:93", after := #[{ on := 0, ground := Ground.data }], guard := none }) (v := ?_) rfl (by kernel_rfl) (by kernel_rfl) (by kernel_rfl) (fun _ _ _ h => h) (Or.inl ⟨by rfl, ?_⟩) (by assumption) ?_
                rotate_left
                · (intro wS hSw; (try dsimp only at hSw); go_simp; try with_reducible rfl)
                try simp only [Act.put, List.setIfInBounds_toArray, List.set_cons_zero, List.set_cons_succ]
                refine wpAnyH_take (i := 2) (oi := { dst := some 19, op := Op.binOp BinOp.eql 3 (Operand.tmp 18) (Operand.const (Value.int IntKind.i64 0)) 3, type := 4, pos := "chunk.go:93", after := #[{ on := 1, ground := Ground.data }], guard := none }) (v := ?_) rfl (by kernel_rfl) (by kernel_rfl) (by kernel_rfl) (fun _ _ _ h => h) (Or.inl ⟨by rfl, ?_⟩) (by assumption) ?_
                rotate_left
                · (intro wS hSw; (try dsimp only at hSw); go_simp; try with_reducible rfl)
                try simp only [Act.put, List.setIfInBounds_toArray, List.set_cons_zero, List.set_cons_succ]
                refine wpAnyH_take (i := 3) (oi := { dst := some 20, op := Op.move (Operand.tmp 19), type := 4, pos := "chunk.go:93", after := #[{ on := 2, ground := Ground.data }], guard := none }) (v := ?_) rfl (by kernel_rfl) (by kernel_rfl) (by kernel_rfl) (fun _ _ _ h => h) (Or.inl ⟨by rfl, ?_⟩) (by assumption) ?_
                rotate_left
                · (intro wS hSw; (try dsimp only at hSw); go_simp; try with_reducible rfl)
                try simp only [Act.put, List.setIfInBounds_toArray, List.set_cons_zero, List.set_cons_succ]
                refine wpAnyH_take (i := 4) (oi := { dst := some 21, op := Op.load 38 (Operand.tmp 7), type := 38, pos := "chunk.go:93", after := #[{ on := 3, ground := Ground.guard }], guard := some (3, false) }) (v := ?_) rfl (by kernel_rfl) (by kernel_rfl) (by kernel_rfl) (fun _ _ _ h => h) (Or.inl ⟨by rfl, ?_⟩) (by assumption) ?_
                rotate_left
                · (intro wS hSw; (try dsimp only at hSw); go_simp; try with_reducible rfl)
                try simp only [Act.put, List.setIfInBounds_toArray, List.set_cons_zero, List.set_cons_succ]
                refine wpAnyH_take (i := 5) (oi := { dst := some 22, op := Op.move (Operand.tmp 3), type := 26, pos := "chunk.go:93", after := #[{ on := 3, ground := Ground.guard }], guard := some (3, false) }) (v := ?_) rfl (by kernel_rfl) (by kernel_rfl) (by kernel_rfl) (fun _ _ _ h => h) (Or.inl ⟨by rfl, ?_⟩) (by assumption) ?_
                rotate_left
                · (intro wS hSw; (try dsimp only at hSw); go_simp; try with_reducible rfl)
                try simp only [Act.put, List.setIfInBounds_toArray, List.set_cons_zero, List.set_cons_succ]
                refine wpAnyH_take (i := 6) (oi := { dst := some 23, op := Op.move (Operand.tmp 3), type := 26, pos := "chunk.go:93", after := #[{ on := 3, ground := Ground.guard }], guard := some (3, false) }) (v := ?_) rfl (by kernel_rfl) (by kernel_rfl) (by kernel_rfl) (fun _ _ _ h => h) (Or.inl ⟨by rfl, ?_⟩) (by assumption) ?_
                rotate_left
                · (intro wS hSw; (try dsimp only at hSw); go_simp; try with_reducible rfl)
                try simp only [Act.put, List.setIfInBounds_toArray, List.set_cons_zero, List.set_cons_succ]
                refine wpAnyH_take (i := 7) (oi := { dst := some 24, op := Op.call { callee := Callee.builtin Builtin.len, args := #[Operand.tmp 23], argTypes := #[26] }, type := 3, pos := "chunk.go:93", after := #[{ on := 6, ground := Ground.data }, { on := 3, ground := Ground.guard }], guard := some (3, false) }) (v := ?_) rfl (by kernel_rfl) (by kernel_rfl) (by kernel_rfl) (fun _ _ _ h => h) (Or.inl ⟨by rfl, ?_⟩) (by assumption) ?_
                rotate_left
                · (intro wS hSw; (try dsimp only at hSw); go_simp; try with_reducible rfl)
                try simp only [Act.put, List.setIfInBounds_toArray, List.set_cons_zero, List.set_cons_succ]
                refine wpAnyH_take (i := 8) (oi := { dst := some 25, op := Op.binOp BinOp.sub 3 (Operand.tmp 24) (Operand.const (Value.int IntKind.i64 1)) 3, type := 3, pos := "chunk.go:93", after := #[{ on := 7, ground := Ground.data }, { on := 3, ground := Ground.guard }], guard := some (3, false) }) (v := ?_) rfl (by kernel_rfl) (by kernel_rfl) (by kernel_rfl) (fun _ _ _ h => h) (Or.inl ⟨by rfl, ?_⟩) (by assumption) ?_
                rotate_left
                · (intro wS hSw; (try dsimp only at hSw); go_simp; try with_reducible rfl)
                try simp only [Act.put, List.setIfInBounds_toArray, List.set_cons_zero, List.set_cons_succ]
                refine wpAnyH_take (i := 9) (oi := { dst := some 26, op := Op.indexAddr 26 (Operand.tmp 22) (Operand.tmp 25), type := 0, pos := "chunk.go:93", after := #[{ on := 5, ground := Ground.data }, { on := 8, ground := Ground.data }, { on := 3, ground := Ground.guard }], guard := some (3, false) }) (v := ?_) rfl (by kernel_rfl) (by kernel_rfl) (by kernel_rfl) (fun _ _ _ h => h) (Or.inl ⟨by rfl, ?_⟩) (by assumption) ?_
                rotate_left
                · (intro wS hSw; (try dsimp only at hSw); go_simp; try with_reducible rfl)
                try simp only [Act.put, List.setIfInBounds_toArray, List.set_cons_zero, List.set_cons_succ]
                refine wpAnyH_take (i := 10) (oi := { dst := some 27, op := Op.load 38 (Operand.tmp 26), type := 38, pos := "chunk.go:93", after := #[{ on := 9, ground := Ground.data }, { on := 3, ground := Ground.guard }], guard := some (3, false) }) (v := ?_) rfl (by kernel_rfl) (by kernel_rfl) (by kernel_rfl) (fun _ _ _ h => h) (Or.inl ⟨by rfl, ?_⟩) (by assumption) ?_
                rotate_left
                · (intro wS hSw; (try dsimp only at hSw); go_simp; try with_reducible rfl)
                try simp only [Act.put, List.setIfInBounds_toArray, List.set_cons_zero, List.set_cons_succ]
                refine wpAnyH_ready (rs := [11]) (by kernel_rfl) (by simp) ?_
                refine AllReadyH.cons (o := { dst := some 28, op := Op.call { callee := Callee.value (Operand.func 77), args := #[Operand.tmp 21, Operand.tmp 27], argTypes := #[38, 38] }, type := 3, pos := "chunk.go:93", after := #[{ on := 4, ground := Ground.data }, { on := 10, ground := Ground.data }, { on := 3, ground := Ground.chain }, { on := 3, ground := Ground.guard }], guard := some (3, false) }) rfl (fun K hK => ?_) AllReadyH.nil
                go_simp
                go_at_call 77
                refine (HOY.out _).mono ?_
                rintro e wa ⟨rfl, hb3⟩
                have HQA := hid ((bdrew (brefl w4) 1).trans hb3)
                have hsz3 := HQA.out.size
                have q00 := (hb3.cell (p := ⟨q, 0, none⟩) hql).trans k0
                have q01 := (hb3.cell (p := ⟨q, 1, none⟩) hql).trans k1
                have q02 := (hb3.cell (p := ⟨q, 2, none⟩) hql).trans k2
                have q30 := (hb3.cell (p := ⟨g, go + v * 3, none⟩) hgl).trans y0
                have q31 := (hb3.cell (p := ⟨g, go + v * 3 + 1, none⟩) hgl).trans y1
                have q32 := (hb3.cell (p := ⟨g, go + v * 3 + 2, none⟩) hgl).trans y2
                have q60 := (hb3.cell (p := ⟨s, 0, none⟩) hsl).trans m0
                have q61 := (hb3.cell (p := ⟨s, 1, none⟩) hsl).trans m1
                have q62 := (hb3.cell (p := ⟨s, 2, none⟩) hsl).trans m2
                clear hb3
                (try go_wp2_with fail)
                refine hK.out _ _ ?_ (fun hHeld2 => ?_)
                · (try dsimp only)
                  go_keep
                clear hK hHeld
                clear K
                have hHeld := hHeld2
                clear hHeld2
                try simp only [Act.put, List.setIfInBounds_toArray, List.set_cons_zero, List.set_cons_succ]
                refine wpAnyH_take (i := 12) (oi := { dst := some 29, op := Op.binOp BinOp.gtr 3 (Operand.tmp 28) (Operand.const (Value.int IntKind.i64 0)) 3, type := 4, pos := "chunk.go:93", after := #[{ on := 11, ground := Ground.data }, { on := 3, ground := Ground.guard }], guard := some (3, false) }) (v := ?_) rfl (by kernel_rfl) (by kernel_rfl) (by kernel_rfl) (fun _ _ _ h => h) (Or.inl ⟨by rfl, ?_⟩) (by assumption) ?_
                rotate_left
                · (intro wS hSw; (try dsimp only at hSw); go_simp; try with_reducible rfl)
                try simp only [Act.put, List.setIfInBounds_toArray, List.set_cons_zero, List.set_cons_succ]
                refine wpAnyH_take (i := 13) (oi := { dst := some 30, op := Op.pick (Operand.tmp 20) (Operand.const (Value.bool true)) (Operand.tmp 29), type := 4, pos := "chunk.go:93", after := #[{ on := 3, ground := Ground.data }, { on := 12, ground := Ground.data }], guard := none }) (v := ?_) rfl (by kernel_rfl) (by kernel_rfl) (by kernel_rfl) (fun _ _ _ h => h) (Or.inl ⟨by rfl, ?_⟩) (by assumption) ?_
                rotate_left
                · (intro wS hSw; (try dsimp only at hSw); go_simp; try with_reducible rfl)
                try simp only [Act.put, List.setIfInBounds_toArray, List.set_cons_zero, List.set_cons_succ]
                refine wpAnyH_take (i := 14) (oi := { dst := some 31, op := Op.move (Operand.tmp 30), type := 4, pos := "chunk.go:93", after := #[{ on := 13, ground := Ground.data }, { on := 11, ground := Ground.chain }], guard := none }) (v := ?_) rfl (by kernel_rfl) (by kernel_rfl) (by kernel_rfl) (fun _ _ _ h => h) (Or.inl ⟨by rfl, ?_⟩) (by assumption) ?_
                rotate_left
                · (intro wS hSw; (try dsimp only at hSw); go_simp; try with_reducible rfl)
                try simp only [Act.put, List.setIfInBounds_toArray, List.set_cons_zero, List.set_cons_succ]
                refine wpAnyH_take (i := 15) (oi := { dst := some 32, op := Op.move (Operand.tmp 4), type := 4, pos := "chunk.go:93", after := #[{ on := 14, ground := Ground.guard }], guard := some (14, true) }) (v := ?_) rfl (by kernel_rfl) (by kernel_rfl) (by kernel_rfl) (fun _ _ _ h => h) (Or.inl ⟨by rfl, ?_⟩) (by assumption) ?_
                rotate_left
                · (intro wS hSw; (try dsimp only at hSw); go_simp; try with_reducible rfl)
                try simp only [Act.put, List.setIfInBounds_toArray, List.set_cons_zero, List.set_cons_succ]
                refine wpAnyH_take (i := 16) (oi := { dst := some 33, op := Op.unOp UnOp.not 4 (Operand.tmp 32), type := 4, pos := "chunk.go:93", after := #[{ on := 15, ground := Ground.data }, { on := 14, ground := Ground.guard }], guard := some (14, true) }) (v := ?_) rfl (by kernel_rfl) (by kernel_rfl) (by kernel_rfl) (fun _ _ _ h => h) (Or.inl ⟨by rfl, ?_⟩) (by assumption) ?_
                rotate_left
                · (intro wS hSw; (try dsimp only at hSw); go_simp; try with_reducible rfl)
                try simp only [Act.put, List.setIfInBounds_toArray, List.set_cons_zero, List.set_cons_succ]
                refine wpAnyH_take (i := 17) (oi := { dst := some 34, op := Op.move (Operand.tmp 33), type := 4, pos := "chunk.go:93", after := #[{ on := 16, ground := Ground.data }, { on := 14, ground := Ground.chain }, { on := 14, ground := Ground.guard }], guard := some (14, true) }) (v := ?_) rfl (by kernel_rfl) (by kernel_rfl) (by kernel_rfl) (fun _ _ _ h => h) (Or.inl ⟨by rfl, ?_⟩) (by assumption) ?_
                rotate_left
                · (intro wS hSw; (try dsimp only at hSw); go_simp; try with_reducible rfl)
                try simp only [Act.put, List.setIfInBounds_toArray, List.set_cons_zero, List.set_cons_succ]
                refine wpAnyH_take (i := 18) (oi := { dst := some 35, op := Op.load 38 (Operand.tmp 7), type := 38, pos := "chunk.go:93", after := #[{ on := 17, ground := Ground.guard }], guard := some (17, false) }) (v := ?_) rfl (by kernel_rfl) (by kernel_rfl) (by kernel_rfl) (fun _ _ _ h => h) (Or.inl ⟨by rfl, ?_⟩) (by assumption) ?_
                rotate_left
                · (intro wS hSw; (try dsimp only at hSw); go_simp; try with_reducible rfl)
                try simp only [Act.put, List.setIfInBounds_toArray, List.set_cons_zero, List.set_cons_succ]
                refine wpAnyH_take (i := 19) (oi := { dst := some 36, op := Op.load 38 (Operand.tmp 5), type := 38, pos := "chunk.go:93", after := #[{ on := 17, ground := Ground.guard }], guard := some (17, false) }) (v := ?_) rfl (by kernel_rfl) (by kernel_rfl) (by kernel_rfl) (fun _ _ _ h => h) (Or.inl ⟨by rfl, ?_⟩) (by assumption) ?_
                rotate_left
                · (intro wS hSw; (try dsimp only at hSw); go_simp; try with_reducible rfl)
                try simp only [Act.put, List.setIfInBounds_toArray, List.set_cons_zero, List.set_cons_succ]
                refine wpAnyH_ready (rs := [20]) (by kernel_rfl) (by simp) ?_
                refine AllReadyH.cons (o := { dst := some 37, op := Op.call { callee := Callee.value (Operand.func 77), args := #[Operand.tmp 35, Operand.tmp 36], argTypes := #[38, 38] }, type := 3, pos := "chunk.go:93", after := #[{ on := 18, ground := Ground.data }, { on := 19, ground := Ground.data }, { on := 17, ground := Ground.chain }, { on := 17, ground := Ground.guard }], guard := some (17, false) }) rfl (fun K hK => ?_) AllReadyH.nil
                go_simp
                go_at_call 77
                refine (HOM.out _).mono ?_
                rintro e w5 ⟨rfl, hb3⟩
                have HQD := hid (HQA.out.trans (hb3.mono hsz3))
                have r00 := (hb3.cell (p := ⟨q, 0, none⟩) (Nat.lt_of_lt_of_le hql hsz3)).trans q00
                have r01 := (hb3.cell (p := ⟨q, 1, none⟩) (Nat.lt_of_lt_of_le hql hsz3)).trans q01
                have r02 := (hb3.cell (p := ⟨q, 2, none⟩) (Nat.lt_of_lt_of_le hql hsz3)).trans q02
                have r30 := (hb3.cell (p := ⟨g, go + v * 3, none⟩) (Nat.lt_of_lt_of_le hgl hsz3)).trans q30
                have r31 := (hb3.cell (p := ⟨g, go + v * 3 + 1, none⟩) (Nat.lt_of_lt_of_le hgl hsz3)).trans q31
                have r32 := (hb3.cell (p := ⟨g, go + v * 3 + 2, none⟩) (Nat.lt_of_lt_of_le hgl hsz3)).trans q32
                have r60 := (hb3.cell (p := ⟨s, 0, none⟩) (Nat.lt_of_lt_of_le hsl hsz3)).trans q60
                have r61 := (hb3.cell (p := ⟨s, 1, none⟩) (Nat.lt_of_lt_of_le hsl hsz3)).trans q61
                have r62 := (hb3.cell (p := ⟨s, 2, none⟩) (Nat.lt_of_lt_of_le hsl hsz3)).trans q62
                clear hb3
                (try go_wp2_with fail)
                refine hK.out _ _ ?_ (fun hHeld2 => ?_)
                · (try dsimp only)
                  go_keep
                clear hK hHeld
                clear K
                have hHeld := hHeld2
                clear hHeld2
                try simp only [Act.put, List.setIfInBounds_toArray, List.set_cons_zero, List.set_cons_succ]
                refine wpAnyH_take (i := 21) (oi := { dst := some 38, op := Op.binOp BinOp.lss 3 (Operand.tmp 37) (Operand.const (Value.int IntKind.i64 0)) 3, type := 4, pos := "chunk.go:93", after := #[{ on := 20, ground := Ground.data }, { on := 17, ground := Ground.guard }], guard := some (17, false) }) (v := ?_) rfl (by kernel_rfl) (by kernel_rfl) (by kernel_rfl) (fun _ _ _ h => h) (Or.inl ⟨by rfl, ?_⟩) (by assumption) ?_
                rotate_left
                · (intro wS hSw; (try dsimp only at hSw); go_simp; try with_reducible rfl)
                try simp only [Act.put, List.setIfInBounds_toArray, List.set_cons_zero, List.set_cons_succ]
                refine wpAnyH_take (i := 22) (oi := { dst := some 39, op := Op.pick (Operand.tmp 34) (Operand.const (Value.bool true)) (Operand.tmp 38), type := 4, pos := "chunk.go:93", after := #[{ on := 17, ground := Ground.data }, { on := 21, ground := Ground.data }, { on := 14, ground := Ground.guard }], guard := some (14, true) }) (v := ?_) rfl (by kernel_rfl) (by kernel_rfl) (by kernel_rfl) (fun _ _ _ h => h) (Or.inl ⟨by rfl, ?_⟩) (by assumption) ?_
                rotate_left
                · (intro wS hSw; (try dsimp only at hSw); go_simp; try with_reducible rfl)
                try simp only [Act.put, List.setIfInBounds_toArray, List.set_cons_zero, List.set_cons_succ]
                refine wpAnyH_take (i := 23) (oi := { dst := some 40, op := Op.pick (Operand.tmp 31) (Operand.tmp 39) (Operand.const (Value.bool false)), type := 4, pos := "chunk.go:93", after := #[{ on := 14, ground := Ground.data }, { on := 22, ground := Ground.data }], guard := none }) (v := ?_) rfl (by kernel_rfl) (by kernel_rfl) (by kernel_rfl) (fun _ _ _ h => h) (Or.inl ⟨by rfl, ?_⟩) (by assumption) ?_
                rotate_left
                · (intro wS hSw; (try dsimp only at hSw); go_simp; try with_reducible rfl)
                try simp only [Act.put, List.setIfInBounds_toArray, List.set_cons_zero, List.set_cons_succ]
                refine wpAnyH_done (by kernel_rfl) ?_ _
                clear hHeld
                clear q00 q01 q02 q30 q31 q32 q60 q61 q62 r00 r01 r02 r30 r31 r32 r60 r61 r62 hql hsl hgl hsz3
                have HRS5 := hid (HRS4.out.mono HQD.out)
                have HB5 := hid (HB4.out.trans (HQD.out.mono HSZ4.out))
                have j0 := (HQD.out.cell (p := ⟨q, 0, none⟩) HQW.out).trans k0
                have j1 := (HQD.out.cell (p := ⟨q, 1, none⟩) HQW.out).trans k1
                have j2 := (HQD.out.cell (p := ⟨q, 2, none⟩) HQW.out).trans k2
                clear k0 k1 k2 y0 y1 y2 m0 m1 m2
                have k0 := j0
                have k1 := j1
                have k2 := j2
                clear j0 j1 j2
                by_cases hom : om < 0
                · have ho2 : decide (om < 0) = true := by simp [hom]
                  (try rw [ho2])
                  have m0 : w5.cell? ⟨s, 0, none⟩ = some (.bool false) := by rw [HRS5.out.cell]; rfl
                  have m1 : w5.cell? ⟨s, 1, none⟩ = some (.int .i64 mi) := by rw [HRS5.out.cell]; rfl
                  have m2 : w5.cell? ⟨s, 2, none⟩ = some (.string ms) := by rw [HRS5.out.cell]; rfl
                  have f0 : w5.frozen? ⟨s, 0, none⟩ = false := HRS5.out.frozen 0
                  have f1 : w5.frozen? ⟨s, 1, none⟩ = false := HRS5.out.frozen 1
                  have f2 : w5.frozen? ⟨s, 2, none⟩ = false := HRS5.out.frozen 2
                  go_upto_region 10 with fail
                  change Code.wp _ _ _ _ (setc3 w5 s (pvc (xi, xs')))
                  have HR6 := hid (row_setc3 (show Row w5 s 38 (pvc (mi, ms)) from HRS5.out) (.bool false) (.int .i64 xi) (.string xs'))
                  have HB6 := hid (below_setc3 HB5.out s (Nat.le_refl _) (pvc (xi, xs')))
                  have HLF : Hid (leastF l (some (mi, ms)) (xi, xs') = some (xi, xs')) := hid (by unfold leastF; rw [HABV.out]; rw [HBLW.out]; simp [hom, hoy])
                  clear k0 k1 k2 f0 f1 f2 m0 m1 m2
                  change Hid (Row (setc3 w5 s (pvc (xi, xs'))) s _ _) at HR6
                  generalize setc3 w5 s (pvc (xi, xs')) = w6 at *
                  go_wp2_with fail
                  go_roundw
                  case rel => first | exact ⟨t + 1, by omega, by go_num, by rw [HST.out, HLF.out]; try rfl, hid (by rw [HST.out, HLF.out]; exact HR6.out), HB6⟩ | ((repeat apply Exists.intro); exact ⟨⟨t + 1, by omega, by go_num, by rw [HST.out, HLF.out]; try rfl, hid (by rw [HST.out, HLF.out]; exact HR6.out), HB6⟩, rfl⟩)
                  case measure => simp [intOf]; omega

                · have ho2 : decide (om < 0) = false := by simp [hom]
                  (try rw [ho2])
                  have HLF : Hid (leastF l (some (mi, ms)) (xi, xs') = (some (mi, ms))) := hid (by unfold leastF; rw [HABV.out]; rw [HBLW.out]; simp [hom, hoy])
                  clear k0 k1 k2
                  go_wp2_with fail
                  go_roundw
                  case rel => first | exact ⟨t + 1, by omega, by go_num, by rw [HST.out, HLF.out]; try rfl, hid (by rw [HST.out, HLF.out]; exact HRS5.out), HB5⟩ | ((repeat apply Exists.intro); exact ⟨⟨t + 1, by omega, by go_num, by rw [HST.out, HLF.out]; try rfl, hid (by rw [HST.out, HLF.out]; exact HRS5.out), HB5⟩, rfl⟩) | exact ⟨_, _, _, ⟨t + 1, by omega, by go_num, by rw [HST.out, HLF.out]; try rfl, hid (by rw [HST.out, HLF.out]; exact HRS5.out)⟩, rfl, rfl, rfl⟩
                  case measure => simp [intOf]; omega

            · have ho1 : decide (oy > 0) = false := by simp; omega
              have hoy2 : ¬ 0 < oy := hoy
              have hql : q < w4.heap.size := HQW.out
              have hsl : s < w4.heap.size := HSLT.out
              have hgl : g < w4.heap.size := HGW.out
              refine wp_region_held_drew (S := fun w' => w'.cell? ⟨q, 0, none⟩ = some (.bool false) ∧ w'.cell? ⟨q, 1, none⟩ = some (.int .i64 xi) ∧ w'.cell? ⟨q, 2, none⟩ = some (.string xs') ∧ w'.cell? ⟨g, go + v * 3, none⟩ = some (.bool false) ∧ w'.cell? ⟨g, go + v * 3 + 1, none⟩ = some (.int .i64 yi) ∧ w'.cell? ⟨g, go + v * 3 + 2, none⟩ = some (.string ys')) (by kernel_rfl) (by (try dsimp only); go_keep) (fun hHeld => ?_)
              refine wpAnyH_take (i := 0) (oi := { dst := some 17, op := Op.move (Operand.tmp 3), type := 26, pos := "chunk.go:93", after := #[], guard := none }) (v := ?_) rfl (by kernel_rfl) (by kernel_rfl) (by kernel_rfl) (fun _ _ _ h => h) (Or.inl ⟨by rfl, ?_⟩) (by assumption) ?_
              rotate_left
              · (intro wS hSw; (try dsimp only at hSw); go_simp; try with_reducible rfl)
              try simp only [Act.put, List.setIfInBounds_toArray, List.set_cons_zero, List.set_cons_succ]
              refine wpAnyH_take (i := 1) (oi := { dst := some 18, op := Op.call { callee := Callee.builtin Builtin.len, args := #[Operand.tmp 17], argTypes := #[26] }, type := 3, pos := "chunk.go:93", after := #[{ on := 0, ground := Ground.data }], guard := none }) (v := ?_) rfl (by kernel_rfl) (by kernel_rfl) (by kernel_rfl) (fun _ _ _ h => h) (Or.inl ⟨by rfl, ?_⟩) (by assumption) ?_
              rotate_left
              · (intro wS hSw; (try dsimp only at hSw); go_simp; try with_reducible rfl)
              try simp only [Act.put, List.setIfInBounds_toArray, List.set_cons_zero, List.set_cons_succ]
              refine wpAnyH_take (i := 2) (oi := { dst := some 19, op := Op.binOp BinOp.eql 3 (Operand.tmp 18) (Operand.const (Value.int IntKind.i64 0)) 3, type := 4, pos := "chunk.go:93", after := #[{ on := 1, ground := Ground.data }], guard := none }) (v := ?_) rfl (by kernel_rfl) (by kernel_rfl) (by kernel_rfl) (fun _ _ _ h => h) (Or.inl ⟨by rfl, ?_⟩) (by assumption) ?_
              rotate_left
              · (intro wS hSw; (try dsimp only at hSw); go_simp; try with_reducible rfl)
              try simp only [Act.put, List.setIfInBounds_toArray, List.set_cons_zero, List.set_cons_succ]
              refine wpAnyH_take (i := 3) (oi := { dst := some 20, op := Op.move (Operand.tmp 19), type := 4, pos := "chunk.go:93", after := #[{ on := 2, ground := Ground.data }], guard := none }) (v := ?_) rfl (by kernel_rfl) (by kernel_rfl) (by kernel_rfl) (fun _ _ _ h => h) (Or.inl ⟨by rfl, ?_⟩) (by assumption) ?_
              rotate_left
              · (intro wS hSw; (try dsimp only at hSw); go_simp; try with_reducible rfl)
              try simp only [Act.put, List.setIfInBounds_toArray, List.set_cons_zero, List.set_cons_succ]
              refine wpAnyH_take (i := 4) (oi := { dst := some 21, op := Op.load 38 (Operand.tmp 7), type := 38, pos := "chunk.go:93", after := #[{ on := 3, ground := Ground.guard }], guard := some (3, false) }) (v := ?_) rfl (by kernel_rfl) (by kernel_rfl) (by kernel_rfl) (fun _ _ _ h => h) (Or.inl ⟨by rfl, ?_⟩) (by assumption) ?_
              rotate_left
              · (intro wS hSw; (try dsimp only at hSw); go_simp; try with_reducible rfl)
              try simp only [Act.put, List.setIfInBounds_toArray, List.set_cons_zero, List.set_cons_succ]
              refine wpAnyH_take (i := 5) (oi := { dst := some 22, op := Op.move (Operand.tmp 3), type := 26, pos := "chunk.go:93", after := #[{ on := 3, ground := Ground.guard }], guard := some (3, false) }) (v := ?_) rfl (by kernel_rfl) (by kernel_rfl) (by kernel_rfl) (fun _ _ _ h => h) (Or.inl ⟨by rfl, ?_⟩) (by assumption) ?_
              rotate_left
              · (intro wS hSw; (try dsimp only at hSw); go_simp; try with_reducible rfl)
              try simp only [Act.put, List.setIfInBounds_toArray, List.set_cons_zero, List.set_cons_succ]
              refine wpAnyH_take (i := 6) (oi := { dst := some 23, op := Op.move (Operand.tmp 3), type := 26, pos := "chunk.go:93", after := #[{ on := 3, ground := Ground.guard }], guard := some (3, false) }) (v := ?_) rfl (by kernel_rfl) (by kernel_rfl) (by kernel_rfl) (fun _ _ _ h => h) (Or.inl ⟨by rfl, ?_⟩) (by assumption) ?_
              rotate_left
              · (intro wS hSw; (try dsimp only at hSw); go_simp; try with_reducible rfl)
              try simp only [Act.put, List.setIfInBounds_toArray, List.set_cons_zero, List.set_cons_succ]
              refine wpAnyH_take (i := 7) (oi := { dst := some 24, op := Op.call { callee := Callee.builtin Builtin.len, args := #[Operand.tmp 23], argTypes := #[26] }, type := 3, pos := "chunk.go:93", after := #[{ on := 6, ground := Ground.data }, { on := 3, ground := Ground.guard }], guard := some (3, false) }) (v := ?_) rfl (by kernel_rfl) (by kernel_rfl) (by kernel_rfl) (fun _ _ _ h => h) (Or.inl ⟨by rfl, ?_⟩) (by assumption) ?_
              rotate_left
              · (intro wS hSw; (try dsimp only at hSw); go_simp; try with_reducible rfl)
              try simp only [Act.put, List.setIfInBounds_toArray, List.set_cons_zero, List.set_cons_succ]
              refine wpAnyH_take (i := 8) (oi := { dst := some 25, op := Op.binOp BinOp.sub 3 (Operand.tmp 24) (Operand.const (Value.int IntKind.i64 1)) 3, type := 3, pos := "chunk.go:93", after := #[{ on := 7, ground := Ground.data }, { on := 3, ground := Ground.guard }], guard := some (3, false) }) (v := ?_) rfl (by kernel_rfl) (by kernel_rfl) (by kernel_rfl) (fun _ _ _ h => h) (Or.inl ⟨by rfl, ?_⟩) (by assumption) ?_
              rotate_left
              · (intro wS hSw; (try dsimp only at hSw); go_simp; try with_reducible rfl)
              try simp only [Act.put, List.setIfInBounds_toArray, List.set_cons_zero, List.set_cons_succ]
              refine wpAnyH_take (i := 9) (oi := { dst := some 26, op := Op.indexAddr 26 (Operand.tmp 22) (Operand.tmp 25), type := 0, pos := "chunk.go:93", after := #[{ on := 5, ground := Ground.data }, { on := 8, ground := Ground.data }, { on := 3, ground := Ground.guard }], guard := some (3, false) }) (v := ?_) rfl (by kernel_rfl) (by kernel_rfl) (by kernel_rfl) (fun _ _ _ h => h) (Or.inl ⟨by rfl, ?_⟩) (by assumption) ?_
              rotate_left
              · (intro wS hSw; (try dsimp only at hSw); go_simp; try with_reducible rfl)
              try simp only [Act.put, List.setIfInBounds_toArray, List.set_cons_zero, List.set_cons_succ]
              refine wpAnyH_take (i := 10) (oi := { dst := some 27, op := Op.load 38 (Operand.tmp 26), type := 38, pos := "chunk.go:93", after := #[{ on := 9, ground := Ground.data }, { on := 3, ground := Ground.guard }], guard := some (3, false) }) (v := ?_) rfl (by kernel_rfl) (by kernel_rfl) (by kernel_rfl) (fun _ _ _ h => h) (Or.inl ⟨by rfl, ?_⟩) (by assumption) ?_
              rotate_left
              · (intro wS hSw; (try dsimp only at hSw); go_simp; try with_reducible rfl)
              try simp only [Act.put, List.setIfInBounds_toArray, List.set_cons_zero, List.set_cons_succ]
              refine wpAnyH_ready (rs := [11]) (by kernel_rfl) (by simp) ?_
              refine AllReadyH.cons (o := { dst := some 28, op := Op.call { callee := Callee.value (Operand.func 77), args := #[Operand.tmp 21, Operand.tmp 27], argTypes := #[38, 38] }, type := 3, pos := "chunk.go:93", after := #[{ on := 4, ground := Ground.data }, { on := 10, ground := Ground.data }, { on := 3, ground := Ground.chain }, { on := 3, ground := Ground.guard }], guard := some (3, false) }) rfl (fun K hK => ?_) AllReadyH.nil
              go_simp
              go_at_call 77
              refine (HOY.out _).mono ?_
              rintro e w5 ⟨rfl, hb3⟩
              have HQD := hid ((bdrew (brefl w4) 1).trans hb3)
              have q00 := (hb3.cell (p := ⟨q, 0, none⟩) hql).trans k0
              have q01 := (hb3.cell (p := ⟨q, 1, none⟩) hql).trans k1
              have q02 := (hb3.cell (p := ⟨q, 2, none⟩) hql).trans k2
              have q30 := (hb3.cell (p := ⟨g, go + v * 3, none⟩) hgl).trans y0
              have q31 := (hb3.cell (p := ⟨g, go + v * 3 + 1, none⟩) hgl).trans y1
              have q32 := (hb3.cell (p := ⟨g, go + v * 3 + 2, none⟩) hgl).trans y2
              clear hb3
              (try go_wp2_with fail)
              refine hK.out _ _ ?_ (fun hHeld2 => ?_)
              · (try dsimp only)
                go_keep
              clear hK hHeld
              clear K
              have hHeld := hHeld2
              clear hHeld2
              try simp only [Act.put, List.setIfInBounds_toArray, List.set_cons_zero, List.set_cons_succ]
              refine wpAnyH_take (i := 12) (oi := { dst := some 29, op := Op.binOp BinOp.gtr 3 (Operand.tmp 28) (Operand.const (Value.int IntKind.i64 0)) 3, type := 4, pos := "chunk.go:93", after := #[{ on := 11, ground := Ground.data }, { on := 3, ground := Ground.guard }], guard := some (3, false) }) (v := ?_) rfl (by kernel_rfl) (by kernel_rfl) (by kernel_rfl) (fun _ _ _ h => h) (Or.inl ⟨by rfl, ?_⟩) (by assumption) ?_
              rotate_left
              · (intro wS hSw; (try dsimp only at hSw); go_simp; try with_reducible rfl)
              try simp only [Act.put, List.setIfInBounds_toArray, List.set_cons_zero, List.set_cons_succ]
              refine wpAnyH_take (i := 13) (oi := { dst := some 30, op := Op.pick (Operand.tmp 20) (Operand.const (Value.bool true)) (Operand.tmp 29), type := 4, pos := "chunk.go:93", after := #[{ on := 3, ground := Ground.data }, { on := 12, ground := Ground.data }], guard := none }) (v := ?_) rfl (by kernel_rfl) (by kernel_rfl) (by kernel_rfl) (fun _ _ _ h => h) (Or.inl ⟨by rfl, ?_⟩) (by assumption) ?_
              rotate_left
              · (intro wS hSw; (try dsimp only at hSw); go_simp; try with_reducible rfl)
              try simp only [Act.put, List.setIfInBounds_toArray, List.set_cons_zero, List.set_cons_succ]
              refine wpAnyH_take (i := 14) (oi := { dst := some 31, op := Op.move (Operand.tmp 30), type := 4, pos := "chunk.go:93", after := #[{ on := 13, ground := Ground.data }, { on := 11, ground := Ground.chain }], guard := none }) (v := ?_) rfl (by kernel_rfl) (by kernel_rfl) (by kernel_rfl) (fun _ _ _ h => h) (Or.inl ⟨by rfl, ?_⟩) (by assumption) ?_
              rotate_left
              · (intro wS hSw; (try dsimp only at hSw); go_simp; try with_reducible rfl)
              try simp only [Act.put, List.setIfInBounds_toArray, List.set_cons_zero, List.set_cons_succ]
              refine wpAnyH_take (i := 15) (oi := { dst := some 32, op := Op.move (Operand.tmp 4), type := 4, pos := "chunk.go:93", after := #[{ on := 14, ground := Ground.guard }], guard := some (14, true) }) (v := undef) rfl (by kernel_rfl) (by kernel_rfl) (by kernel_rfl) (fun _ _ _ h => h) (Or.inr ⟨by rfl, rfl⟩) (by assumption) ?_
              try simp only [Act.put, List.setIfInBounds_toArray, List.set_cons_zero, List.set_cons_succ]
              refine wpAnyH_take (i := 16) (oi := { dst := some 33, op := Op.unOp UnOp.not 4 (Operand.tmp 32), type := 4, pos := "chunk.go:93", after := #[{ on := 15, ground := Ground.data }, { on := 14, ground := Ground.guard }], guard := some (14, true) }) (v := undef) rfl (by kernel_rfl) (by kernel_rfl) (by kernel_rfl) (fun _ _ _ h => h) (Or.inr ⟨by rfl, rfl⟩) (by assumption) ?_
              try simp only [Act.put, List.setIfInBounds_toArray, List.set_cons_zero, List.set_cons_succ]
              refine wpAnyH_take (i := 17) (oi := { dst := some 34, op := Op.move (Operand.tmp 33), type := 4, pos := "chunk.go:93", after := #[{ on := 16, ground := Ground.data }, { on := 14, ground := Ground.chain }, { on := 14, ground := Ground.guard }], guard := some (14, true) }) (v := undef) rfl (by kernel_rfl) (by kernel_rfl) (by kernel_rfl) (fun _ _ _ h => h) (Or.inr ⟨by rfl, rfl⟩) (by assumption) ?_
              try simp only [Act.put, List.setIfInBounds_toArray, List.set_cons_zero, List.set_cons_succ]
              refine wpAnyH_take (i := 18) (oi := { dst := some 35, op := Op.load 38 (Operand.tmp 7), type := 38, pos := "chunk.go:93", after := #[{ on := 17, ground := Ground.guard }], guard := some (17, false) }) (v := undef) rfl (by kernel_rfl) (by kernel_rfl) (by kernel_rfl) (fun _ _ _ h => h) (Or.inr ⟨by rfl, rfl⟩) (by assumption) ?_
              try simp only [Act.put, List.setIfInBounds_toArray, List.set_cons_zero, List.set_cons_succ]
              refine wpAnyH_take (i := 19) (oi := { dst := some 36, op := Op.load 38 (Operand.tmp 5), type := 38, pos := "chunk.go:93", after := #[{ on := 17, ground := Ground.guard }], guard := some (17, false) }) (v := undef) rfl (by kernel_rfl) (by kernel_rfl) (by kernel_rfl) (fun _ _ _ h => h) (Or.inr ⟨by rfl, rfl⟩) (by assumption) ?_
              try simp only [Act.put, List.setIfInBounds_toArray, List.set_cons_zero, List.set_cons_succ]
              refine wpAnyH_take (i := 20) (oi := { dst := some 37, op := Op.call { callee := Callee.value (Operand.func 77), args := #[Operand.tmp 35, Operand.tmp 36], argTypes := #[38, 38] }, type := 3, pos := "chunk.go:93", after := #[{ on := 18, ground := Ground.data }, { on := 19, ground := Ground.data }, { on := 17, ground := Ground.chain }, { on := 17, ground := Ground.guard }], guard := some (17, false) }) (v := undef) rfl (by kernel_rfl) (by kernel_rfl) (by kernel_rfl) (fun _ _ _ h => h) (Or.inr ⟨by rfl, rfl⟩) (by assumption) ?_
              try simp only [Act.put, List.setIfInBounds_toArray, List.set_cons_zero, List.set_cons_succ]
              refine wpAnyH_take (i := 21) (oi := { dst := some 38, op := Op.binOp BinOp.lss 3 (Operand.tmp 37) (Operand.const (Value.int IntKind.i64 0)) 3, type := 4, pos := "chunk.go:93", after := #[{ on := 20, ground := Ground.data }, { on := 17, ground := Ground.guard }], guard := some (17, false) }) (v := undef) rfl (by kernel_rfl) (by kernel_rfl) (by kernel_rfl) (fun _ _ _ h => h) (Or.inr ⟨by rfl, rfl⟩) (by assumption) ?_
              try simp only [Act.put, List.setIfInBounds_toArray, List.set_cons_zero, List.set_cons_succ]
              refine wpAnyH_take (i := 22) (oi := { dst := some 39, op := Op.pick (Operand.tmp 34) (Operand.const (Value.bool true)) (Operand.tmp 38), type := 4, pos := "chunk.go:93", after := #[{ on := 17, ground := Ground.data }, { on := 21, ground := Ground.data }, { on := 14, ground := Ground.guard }], guard := some (14, true) }) (v := undef) rfl (by kernel_rfl) (by kernel_rfl) (by kernel_rfl) (fun _ _ _ h => h) (Or.inr ⟨by rfl, rfl⟩) (by assumption) ?_
              try simp only [Act.put, List.setIfInBounds_toArray, List.set_cons_zero, List.set_cons_succ]
              refine wpAnyH_take (i := 23) (oi := { dst := some 40, op := Op.pick (Operand.tmp 31) (Operand.tmp 39) (Operand.const (Value.bool false)), type := 4, pos := "chunk.go:93", after := #[{ on := 14, ground := Ground.data }, { on := 22, ground := Ground.data }], guard := none }) (v := ?_) rfl (by kernel_rfl) (by kernel_rfl) (by kernel_rfl) (fun _ _ _ h => h) (Or.inl ⟨by rfl, ?_⟩) (by assumption) ?_
              rotate_left
              · (intro wS hSw; (try dsimp only at hSw); go_simp; try with_reducible rfl)
              try simp only [Act.put, List.setIfInBounds_toArray, List.set_cons_zero, List.set_cons_succ]
              refine wpAnyH_done (by kernel_rfl) ?_ _
              clear hHeld
              clear q00 q01 q02 q30 q31 q32 hql hsl hgl
              have HRS5 := hid (HRS4.out.mono HQD.out)
              have HB5 := hid (HB4.out.trans (HQD.out.mono HSZ4.out))
              have j0 := (HQD.out.cell (p := ⟨q, 0, none⟩) HQW.out).trans k0
              have j1 := (HQD.out.cell (p := ⟨q, 1, none⟩) HQW.out).trans k1
              have j2 := (HQD.out.cell (p := ⟨q, 2, none⟩) HQW.out).trans k2
              clear k0 k1 k2 y0 y1 y2
              have k0 := j0
              have k1 := j1
              have k2 := j2
              clear j0 j1 j2
              (try rw [ho1])
              have HLF : Hid (leastF l acc (xi, xs') = acc) := hid (by unfold leastF; rw [HABV.out]; rw [show decide (0 < oy) = false from decide_eq_false (by omega)]; rfl)
              clear k0 k1 k2
              go_wp2_with fail
              go_roundw
              case rel => first | exact ⟨t + 1, by omega, by go_num, by rw [HST.out, HLF.out]; try rfl, hid (by rw [HST.out, HLF.out]; exact HRS5.out), HB5⟩ | ((repeat apply Exists.intro); exact ⟨⟨t + 1, by omega, by go_num, by rw [HST.out, HLF.out]; try rfl, hid (by rw [HST.out, HLF.out]; exact HRS5.out), HB5⟩, rfl⟩) | exact ⟨_, _, _, ⟨t + 1, by omega, by go_num, by rw [HST.out, HLF.out]; try rfl, hid (by rw [HST.out, HLF.out]; exact HRS5.out)⟩, rfl, rfl, rfl⟩
              case measure => simp [intOf]; omega

          · obtain rfl : t = vs.length := by omega
            rw [List.take_length] at HRS
            simp only [List.take_length]
            generalize leastP l vs = acc at *
            rcases acc with _ | m
            · simp only [Option.isSome_none]
              have HFIN := hid (show R = os from HDS.out)
              go_wp2_with fail
              go_ret
              refine ⟨_, rfl, ?_, ?_⟩
              · rw [HFIN.out, HJ.out]
                exact owns3_below HOW.out (by rw [HSS.out]; exact HBZ.out)
              · exact HB.out.trans (by have h := HBZ.out; exact h.mono HWS.out)
            · simp only [Option.isSome_some]
              have HFIN := hid (show R = diffs vs (257 - (j + 1)) (os ++ [m]) from HDS.out)
              obtain ⟨mi, ms⟩ := m
              have k0 : wr.cell? ⟨s, 0, none⟩ = some (.bool false) := by rw [HRS.out.cell]; rfl
              have k1 : wr.cell? ⟨s, 1, none⟩ = some (.int .i64 mi) := by rw [HRS.out.cell]; rfl
              have k2 : wr.cell? ⟨s, 2, none⟩ = some (.string ms) := by rw [HRS.out.cell]; rfl
              have HOWZ := hid (owns3_below HOW.out (show Below w2.heap.size w2 wr by rw [HSS.out]; exact HBZ.out))
              have HBZW := hid (HB.out.trans (by have h := HBZ.out; exact h.mono HWS.out))
              have HSZW := hid HBZW.out.size
              go_wp2_with (at_builtin; refine wpList_append3K rfl (.tmp 46) (.tmp 48) rfl 38 [.bool false, .int .i64 0, .string ByteArray.empty] 32 Tryz.underlying26 Tryz.infoCell rfl rfl rfl HOWZ.out HSZW.out (by intro u hu; simp at hu; rcases hu with rfl | rfl | rfl <;> rfl) (by unfold maxLen; omega) (by omega) ?_; intro v6 w6 ho6 hb6 hz6 hk6; have HO6 := hid ho6; have HB6 := hid hb6; clear ho6 hb6 hz6 hk6 k0 k1 k2)
              obtain ⟨O6, co6, rfl⟩ := owns3_form HO6.out
              go_roundw
              case rel =>
                have G1 : Hid ((os ++ [(mi, ms)]).length = j + 1) := hid (by rw [List.length_append, HJ.out]; rfl)
                exact ⟨os ++ [(mi, ms)], by have := G1.out; omega, hid (by rw [G1.out, cellsP_snoc]; exact HO6.out), hid (by rw [G1.out]; exact HFIN.out.symm), hid (HBZW.out.trans HB6.out)⟩
              case measure => simp [lenV] <;> omega

    · obtain rfl : j = 257 := by omega
      have hj3 : ¬ ((257 : Nat) : Int) ≤ 256 := by omega
      have HD2 := hid (show os = R from HD.out)
      go_wp2_with fail
      go_ret
      exact ⟨_, rfl, by rw [← HD2.out, HJ.out]; exact HOW.out, HB.out⟩
end Go.Proofs.YtdlkdiaobbakiaaGreatDoor
