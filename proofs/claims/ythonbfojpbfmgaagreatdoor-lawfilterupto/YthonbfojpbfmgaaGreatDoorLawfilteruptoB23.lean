/- Package codec: runs of strings put into bytes. -/
import Derived.Test.YthonbfojpbfmgaaGreatDoorLawfilteruptoB19
import Derived.Test.YthonbfojpbfmgaaGreatDoorLawfilteruptoB16
import Derived.Test.YthonbfojpbfmgaaGreatDoorLawfilteruptoB4
import Derived.Test.YthonbfojpbfmgaaGreatDoorLawfilteruptoB22
import Derived.Test.YthonbfojpbfmgaaGreatDoorLawfilteruptoB18
import Derived.Test.YthonbfojpbfmgaaGreatDoorLawfilteruptoB9
import Derived.Test.YthonbfojpbfmgaaGreatDoorLawfilteruptoB5
set_option linter.unusedVariables false
set_option linter.unusedSimpArgs false
set_option linter.unnecessarySimpa false
set_option maxRecDepth 100000
namespace Go.Proofs.YthonbfojpbfmgaaGreatDoor
open Go.RowKit

theorem eqP_pS (x y : ByteArray) : eqP (pS x) (pS y) = (y.toList == x.toList) := by
  have h0 : ordP (pS x) (pS y) = ordS x y := by
    unfold ordP pS
    simp only [Int.lt_irrefl, if_false]
  unfold eqP
  rw [h0]
  unfold ordS ltS eqS
  by_cases h : x.toList = y.toList
  · rw [h, bytesLess_self]; simp
  · have h1 : (x.toList == y.toList) = false := beq_eq_false_iff_ne.2 h
    have h2 : (y.toList == x.toList) = false := beq_eq_false_iff_ne.2 (fun e => h e.symm)
    rw [h1, h2]
    cases Op.bytesLess x.toList y.toList <;> simp
end Go.Proofs.YthonbfojpbfmgaaGreatDoor

/- Package kernel: whether a test holds for a string. -/
set_option linter.unusedVariables false
set_option linter.unusedSimpArgs false
set_option linter.unnecessarySimpa false
set_option maxRecDepth 100000
namespace Go.Proofs.YthonbfojpbfmgaaGreatDoor
open Go.RowKit

theorem ordP_pSS (v l : ByteArray) : ordP (pS v) (pS l) = ordS v l := by
  unfold ordP pS
  simp only [Int.lt_irrefl, if_false]
theorem lt_eq_S {x y : ByteArray} (h : (x.toList == y.toList) = true) : Op.bytesLess x.toList y.toList = false := by
  rw [eq_of_beq h]; exact bytesLess_self _
theorem standsS_S (op : Int) (v l : ByteArray) : standsS op (ordP (pS v) (pS l)) =
    (if op = 1 then (v.toList == l.toList) else if op = 2 then !(v.toList == l.toList) else if op = 3 then Op.bytesLess v.toList l.toList else if op = 4 then Op.bytesLess v.toList l.toList || (v.toList == l.toList) else if op = 5 then !(Op.bytesLess v.toList l.toList || (v.toList == l.toList)) else decide (op = 6) && !Op.bytesLess v.toList l.toList) := by
  rw [ordP_pSS]
  have h1 := @lt_eq_S v l
  unfold standsS ordS ltS eqS
  generalize Op.bytesLess v.toList l.toList = p at *
  generalize (v.toList == l.toList) = q at *
  cases p <;> cases q <;> simp at h1 ⊢
theorem leafT_oneS (op : Int) (v l : ByteArray) (h : 1 ≤ op ∧ op ≤ 6) : leafT op ([l].map pS) (pS v) = standsS op (ordP (pS v) (pS l)) := by
  unfold leafT
  rw [if_neg (by omega), if_neg (by omega)]; rfl
theorem leafT_inS (v : ByteArray) (ls : List ByteArray) : leafT 7 (ls.map pS) (pS v) = foundS ls v := by
  unfold leafT
  rw [if_pos rfl, Bool.eq_iff_iff, List.any_eq_true, foundS_iff]
  constructor
  · rintro ⟨x, h1, h2⟩
    obtain ⟨y, hy, rfl⟩ := List.mem_map.1 h1
    rw [eqP_pS] at h2
    rw [← ba_ext (eq_of_beq h2)]; exact hy
  · intro h
    exact ⟨pS v, List.mem_map.2 ⟨v, h, rfl⟩, by rw [eqP_pS]; simp⟩
theorem leafT_twoS (v a b : ByteArray) : leafT 8 ([a, b].map pS) (pS v) = (!Op.bytesLess v.toList a.toList && (Op.bytesLess v.toList b.toList || (v.toList == b.toList))) := by
  unfold leafT
  rw [if_neg (by decide), if_pos rfl]
  show (decide (0 ≤ ordP (pS v) (pS a)) && decide (ordP (pS v) (pS b) ≤ 0)) = _
  rw [ordP_pSS, ordP_pSS]
  unfold ordS ltS eqS
  congr 1
  · cases Op.bytesLess v.toList a.toList <;> cases (v.toList == a.toList) <;> rfl
  · cases Op.bytesLess v.toList b.toList <;> cases (v.toList == b.toList) <;> rfl
set_option maxHeartbeats 8000000 in
theorem holdsS_any (op : Int) (lits : List ByteArray) (lv : Value) (v : ByteArray) (w : World) (hl : Rd w lv lits.length 1 (strs lits)) (hok : litsOk op lits.length) (hup : op = 7 → (∀ a b, a < b → b < lits.length → ltS (lits.getD a ByteArray.empty) (lits.getD b ByteArray.empty) = true)) (hll : lits.length ≤ 1048576) :
    Calls Tryz.prog 149 #[.agg #[.int .i64 op, lv], .string v] w fun e w' => e = .returned (.bool (leafT op (lits.map pS) (pS v))) ∧ Below w.heap.size w w' := by
  obtain ⟨ho1, ho2, ho3, ho4⟩ := hok
  have HL := hid hl
  obtain ⟨A, c, rfl, _, _, _⟩ := hl.form
  have HB0 := hid ((brefl w).alloc (Nat.le_refl _) (.cells #[.int .i64 op, .slice A lits.length c] 106))
  have HRT : Hid (Row (w.alloc (.cells #[.int .i64 op, .slice A lits.length c] 106)) w.heap.size 106 [.int .i64 op, .slice A lits.length c]) := hid (by unfold Row; rw [heap_alloc_new])
  clear hl
  have hcase : op ≤ 6 ∨ op = 7 ∨ op = 8 := by omega
  rcases hcase with h6 | rfl | rfl
  · obtain ⟨l0, rfl⟩ : ∃ l0, lits = [l0] := by
      have := ho3 h6
      match lits, this with
      | [x], _ => exact ⟨x, rfl⟩
    rw [leafT_oneS op v l0 ⟨ho1, h6⟩, standsS_S]
    have hop : op = 1 ∨ op = 2 ∨ op = 3 ∨ op = 4 ∨ op = 5 ∨ op = 6 := by omega
    clear ho1 ho2 ho3 ho4 h6 hup hll
    obtain ⟨b, o, rfl, hs⟩ := (HL.out.mono HB0.out).atS (by simp)
    have c0 := hs 0 (by simp)
    simp only [List.getD_cons_zero, Nat.add_zero] at c0
    simp only [List.length_singleton] at HB0 HRT c0 ⊢
    clear hs HL
    rcases hop with rfl | rfl | rfl | rfl | rfl | rfl
    · go_enter Tryz.func149, Tryz.ntmps149
      go_upto_region 1 with fail
      generalize w.alloc (.cells #[.int .i64 1, .slice (some ⟨b, o, none⟩) 1 c] 106) = w0 at *
      obtain ⟨k0, k1⟩ := cellP HRT.out
      go_wp2_with fail
      all_goals go_ret
      all_goals exact ⟨ret_bool (by first | rfl | simp), HB0.out⟩
    · go_enter Tryz.func149, Tryz.ntmps149
      go_upto_region 1 with fail
      generalize w.alloc (.cells #[.int .i64 2, .slice (some ⟨b, o, none⟩) 1 c] 106) = w0 at *
      obtain ⟨k0, k1⟩ := cellP HRT.out
      go_wp2_with fail
      all_goals go_ret
      all_goals exact ⟨ret_bool (by first | rfl | simp), HB0.out⟩
    · go_enter Tryz.func149, Tryz.ntmps149
      go_upto_region 1 with fail
      generalize w.alloc (.cells #[.int .i64 3, .slice (some ⟨b, o, none⟩) 1 c] 106) = w0 at *
      obtain ⟨k0, k1⟩ := cellP HRT.out
      go_wp2_with fail
      all_goals go_ret
      all_goals exact ⟨ret_bool (by first | rfl | simp), HB0.out⟩
    · go_enter Tryz.func149, Tryz.ntmps149
      go_upto_region 1 with fail
      generalize w.alloc (.cells #[.int .i64 4, .slice (some ⟨b, o, none⟩) 1 c] 106) = w0 at *
      obtain ⟨k0, k1⟩ := cellP HRT.out
      go_wp2_with fail
      all_goals go_ret
      all_goals exact ⟨ret_bool (by first | rfl | simp), HB0.out⟩
    · go_enter Tryz.func149, Tryz.ntmps149
      go_upto_region 1 with fail
      generalize w.alloc (.cells #[.int .i64 5, .slice (some ⟨b, o, none⟩) 1 c] 106) = w0 at *
      obtain ⟨k0, k1⟩ := cellP HRT.out
      go_wp2_with fail
      all_goals go_ret
      all_goals exact ⟨ret_bool (by first | rfl | simp), HB0.out⟩
    · go_enter Tryz.func149, Tryz.ntmps149
      go_upto_region 1 with fail
      generalize w.alloc (.cells #[.int .i64 6, .slice (some ⟨b, o, none⟩) 1 c] 106) = w0 at *
      obtain ⟨k0, k1⟩ := cellP HRT.out
      go_wp2_with fail
      all_goals go_ret
      all_goals exact ⟨ret_bool (by first | rfl | simp), HB0.out⟩
  · have hp := hup rfl
    have HUP := hid (hp)
    clear hup hp ho1 ho2 ho3 ho4
    rw [leafT_inS]
    have HBS := hid (fun (w2 : World) (h : Below w.heap.size w w2) => BinarySearchSf_any (.slice A lits.length c) lits v w2 (HL.out.mono h) hll HUP.out)
    generalize foundS lits v = fd at *
    generalize lits.length = n at *
    generalize firstGeS lits v = fg at *
    go_enter Tryz.func149, Tryz.ntmps149
    go_upto_region 1 with fail
    generalize w.alloc (.cells #[.int .i64 7, .slice A n c] 106) = w0 at *
    obtain ⟨k0, k1⟩ := cellP HRT.out
    go_wp2_with (go_at_call 190; refine (HBS.out w0 HB0.out).mono ?_; rintro e w5 ⟨rfl, nn, hw5⟩; have HB5 : Hid (Below w0.heap.size w0 w5) := (hid (by rw [hw5]; exact bdrew (brefl w0) nn)); clear hw5 k0 k1)
    go_ret
    exact ⟨rfl, HB0.out.trans (HB5.out.mono HB0.out.size)⟩
  · obtain ⟨a, b2, rfl⟩ : ∃ a b2, lits = [a, b2] := by
      have := ho4 rfl
      match lits, this with
      | [x, y], _ => exact ⟨x, y, rfl⟩
    rw [leafT_twoS]
    clear ho1 ho2 ho3 ho4 hup hll
    obtain ⟨b, o, rfl, hs⟩ := (HL.out.mono HB0.out).atS (by simp)
    have c0 := hs 0 (by simp)
    have c1 := hs 1 (by simp)
    simp only [List.getD_cons_zero, List.getD_cons_succ, Nat.add_zero] at c0 c1
    have hl2 : [a, b2].length = 2 := rfl
    simp only [hl2] at HB0 HRT c0 c1 ⊢
    clear hs HL hl2
    cases h1 : Op.bytesLess v.toList a.toList
    · go_enter Tryz.func149, Tryz.ntmps149
      go_upto_region 1 with fail
      generalize w.alloc (.cells #[.int .i64 8, .slice (some ⟨b, o, none⟩) 2 c] 106) = w0 at *
      obtain ⟨k0, k1⟩ := cellP HRT.out
      go_wp2_with fail
      all_goals go_ret
      all_goals exact ⟨ret_bool (by simp [h1]), HB0.out⟩
    · go_enter Tryz.func149, Tryz.ntmps149
      go_upto_region 1 with fail
      generalize w.alloc (.cells #[.int .i64 8, .slice (some ⟨b, o, none⟩) 2 c] 106) = w0 at *
      obtain ⟨k0, k1⟩ := cellP HRT.out
      go_wp2_with fail
      all_goals go_ret
      all_goals exact ⟨ret_bool (by simp [h1]), HB0.out⟩
end Go.Proofs.YthonbfojpbfmgaaGreatDoor

/- Package kernel: the hits of chunks that hold a list (of strings). -/
set_option linter.unusedVariables false
set_option linter.unusedSimpArgs false
set_option linter.unnecessarySimpa false
set_option maxRecDepth 100000
namespace Go.Proofs.YthonbfojpbfmgaaGreatDoor
open Go.RowKit

/-- a leaf's literals in memory -/
structure Lit_S (w : World) (op : Int) (lv : Value) (lits : List ByteArray) : Prop where
  rd : Rd w lv lits.length 1 (strs lits)
  ok : litsOk op lits.length
  up : op = 7 → ∀ a b, a < b → b < lits.length → ltS (lits.getD a ByteArray.empty) (lits.getD b ByteArray.empty) = true
  le : lits.length ≤ 1048576
theorem Lit_S.mono {w w' : World} {op : Int} {lv : Value} {lits : List ByteArray} (h : Lit_S w op lv lits) (hb : Below w.heap.size w w') : Lit_S w' op lv lits := ⟨h.rd.mono hb, h.ok, h.up, h.le⟩
theorem Lit_S.holds {w : World} {op : Int} {lv : Value} {lits : List ByteArray} (h : Lit_S w op lv lits) (v : ByteArray) :
    Calls Tryz.prog 149 #[.agg #[.int .i64 op, lv], .string v] w fun e w' => e = .returned (.bool (leafT op (lits.map pS) (pS v))) ∧ Below w.heap.size w w' :=
  holdsS_any op lits lv v w h.rd h.ok h.up h.le
theorem Rd.at_S {w : World} {D : Option Addr} {n m cd : Nat} {xs : List ByteArray} (h : Rd w (.slice D n cd) m 1 (lstS xs)) (h0 : 0 < m) : ∃ b o, D = some ⟨b, o, none⟩ ∧
    ∀ k, k < xs.length → w.cell? ⟨b, o + k, none⟩ = some (.string (xs.getD k default)) := Rd.atS h h0

set_option maxHeartbeats 8000000 in
theorem plainHits_S (w : World) (g : Nat) (rows : Int) (codec wd : Nat) (nulls : List Nat) (count : Nat) (list : List ByteArray) (ends : List Nat) (base : Int) (lanes : List Nat) (op : Int) (lits : List ByteArray) (lv : Value)
    (h : Ck_S w g rows codec wd nulls count list ends base lanes) (hcl : list.length = count) (hcn : count ≤ 65536) (hl : Lit_S w op lv lits) :
    Calls Tryz.prog 100 #[.pointer (some ⟨g, 0, none⟩), .agg #[.int .i64 op, lv]] w fun e w' => HitAns w w' e count (fun i => leafT op (lits.map pS) (pS (list.getD i default))) := by
  obtain ⟨A, c, rfl, _, _, _⟩ := hl.rd.form
  have HL := hid hl
  have HC := hid h
  obtain ⟨nu, v5, ev, nv, bef, hr, h2, h3, h4, h5, h6⟩ := h.ex
  obtain ⟨A5, c5, rfl, _, _, _⟩ := h3.form
  rw [hcl] at hr h3
  have HROW := hid hr
  have HLS := hid h3
  have HCL := hid hcl
  clear h2 h3 h4 h5 h6 hr h hl hcl
  have HB0 := hid ((brefl w).alloc (Nat.le_refl _) (.cells #[.int .i64 op, .slice A lits.length c] 106))
  have HRT : Hid (Row (w.alloc (.cells #[.int .i64 op, .slice A lits.length c] 106)) w.heap.size 106 [.int .i64 op, .slice A lits.length c]) := hid (by unfold Row; rw [heap_alloc_new])
  have HSZ : Hid ((w.alloc (.cells #[.int .i64 op, .slice A lits.length c] 106)).heap.size = w.heap.size + 1) := hid (by simp)
  have HR0 := hid (HROW.out.mono HB0.out)
  have HLS0 := hid (HLS.out.mono HB0.out)
  have HL0 := hid (HL.out.mono HB0.out)
  have HST := hid (BitsTo.start count (fun i => leafT op (lits.map pS) (pS (list.getD i default))))
  have HNB := hid (fun w2 => newBitmap_any count w2 (by omega))
  have HHO := hid (fun (w1 w2 : World) (v : ByteArray) (h1 : Below w.heap.size w w1) (h : Below w1.heap.size w1 w2) => ((HL.out.mono h1).mono h).holds v)
  obtain ⟨T, hT⟩ : ∃ T : ByteArray → Bool, ∀ v, leafT op (lits.map pS) (pS v) = T v := ⟨_, fun _ => rfl⟩
  simp only [hT] at HST HHO ⊢
  clear hT HL0 HL
  go_enter Tryz.func100, Tryz.ntmps100
  go_upto_region 1 with fail
  generalize w.alloc (.cells #[.int .i64 op, .slice A lits.length c] 106) = w0 at *
  have k4 : w0.cell? ⟨g, 0 + 4, none⟩ = some (.int .i64 count) := by rw [HR0.out.cell]; rfl
  have k5 : w0.cell? ⟨g, 0 + 5, none⟩ = some (.slice A5 count c5) := by rw [HR0.out.cell]; rfl
  go_upto_region 2 with (go_at_call 51; refine (HNB.out w0).mono ?_; rintro e w1 ⟨rfl, h1, h2, h3⟩; have HRW := hid h1; have HB1 := hid h2; have HZ1 := hid h3; clear h1 h2 h3)
  obtain ⟨q, hq⟩ : ∃ q, w0.heap.size = q := ⟨_, rfl⟩
  have HQ := hid hq
  rw [hq] at HRW HB1 HZ1 HSZ ⊢
  clear hq k4 k5
  obtain ⟨m, hm⟩ : ∃ m, (count + 63) / 64 = m := ⟨_, rfl⟩
  have HM := hid hm
  simp only [hm] at HRW HST ⊢
  clear hm HNB
  have HR1 := hid (HR0.out.below HB1.out (by rw [← HQ.out]; exact HR0.out.lt))
  have k5 : w1.cell? ⟨g, 0 + 5, none⟩ = some (.slice A5 count c5) := by rw [HR1.out.cell]; rfl
  go_wp2_with fail
  clear k5
  go_loopw [18] (fun i wr => ∃ j : Nat, j ≤ count ∧ i = .int .i64 j ∧ Hid (∃ zs, BitsTo count j (fun i => T (list.getD i default)) zs ∧ Row wr q 40 (u64s zs)) ∧ Hid (Below q w0 wr) ∧ Hid (q < wr.heap.size)) (fun i _ => count - (intOf i).toNat)
  case atStart => exact ⟨0, by omega, rfl, hid ⟨_, HST.out, HRW.out⟩, HB1, hid (by rw [HZ1.out]; omega)⟩
  case round =>
    obtain ⟨j, hj, rfl, HR, HB, HZ⟩ := hrel
    by_cases hlt : j < count
    · obtain ⟨zs, hz1, hz2⟩ := HR.out
      have HZA := hid hz1
      have HZR := hid hz2
      clear hz1 hz2 HR
      obtain ⟨b, o, rfl, hcells⟩ := (HLS0.out.mono (by rw [HQ.out]; exact HB.out)).at_S (by omega)
      have l0 := hcells j (by rw [HCL.out]; exact hlt)
      clear hcells
      have HRTw := hid (HRT.out.below HB.out (by have := HSZ.out; omega))
      obtain ⟨y0, y1⟩ := cellP HRTw.out
      have HHw := hid (fun (v : ByteArray) => HHO.out w0 wr v HB0.out (by rw [HQ.out]; exact HB.out))
      obtain ⟨x, hx⟩ : ∃ x, list.getD j default = x := ⟨_, rfl⟩
      rw [hx] at l0
      have HX := hid hx
      clear hx
      obtain ⟨tv, htv⟩ : ∃ tv, T x = tv := ⟨_, rfl⟩
      have HTV := hid htv
      have HHx := hid (HHw.out x)
      rw [htv] at HHx
      clear htv HHw
      cases tv
      · go_wp2_with (go_at_call 149; refine HHx.out.mono ?_; rintro e w5 ⟨rfl, hb5⟩; have HB5 := hid hb5; clear hb5 y0 y1 l0)
        go_roundw
        case rel =>
          refine ⟨j + 1, by omega, by go_num, hid ⟨zs, HZA.out.skip (by omega) (fun i h1 h2 => ?_), HZR.out.mono HB5.out⟩, hid (HB.out.trans (HB5.out.mono (Nat.le_of_lt HZ.out))), hid (Nat.lt_of_lt_of_le HZ.out HB5.out.size)⟩
          obtain rfl : i = j := by omega
          show T (list.getD i default) = false
          rw [HX.out]; exact HTV.out
        case measure => simp [intOf]; omega
      · go_wp2_with (first
          | (go_at_call 149; refine HHx.out.mono ?_; rintro e w5 ⟨rfl, hb5⟩; have HB5 := hid hb5; clear hb5 y0 y1 l0; have HSR := hid (setRange1_any q m count j zs w5 (HZR.out.mono HB5.out) HZA.out.1 HM.out hlt hcn HZA.out.2.1))
          | (go_at_call 150; refine HSR.out.mono ?_; rintro e w6 ⟨rfl, hw6⟩; have HW6 := hid hw6; clear hw6))
        go_roundw
        case rel =>
          obtain ⟨zs', hz1, hz2, hz3, hz4, hz5, hz6⟩ := HW6.out
          have hb6 : Below q w0 w5 := HB.out.trans (HB5.out.mono (Nat.le_of_lt HZ.out))
          have hq5 : q < w5.heap.size := Nat.lt_of_lt_of_le HZ.out HB5.out.size
          refine ⟨j + 1, by omega, by go_num, hid ⟨zs', HZA.out.set (by rw [hz1]; exact HM.out.symm) hz2 hz3 (by omega) (fun i h1 h2 => ?_), hz4⟩, hid (hz5.below hb6 (Nat.le_of_lt hq5) (Nat.le_refl _) (Nat.le_refl _)), hid (by rw [hz6]; exact hq5)⟩
          obtain rfl : i = j := by omega
          show T (list.getD i default) = true
          rw [HX.out]; exact HTV.out
        case measure => simp [intOf]; omega
    · obtain rfl : j = count := by omega
      obtain ⟨zs, hz1, hz2⟩ := HR.out
      have HZA := hid hz1
      have HZR := hid hz2
      clear hz1 hz2 HR
      go_wp2_with fail
      go_ret
      refine ⟨_, zs, rfl, HZA.out.full, ?_, HB0.out.trans (HB.out.mono (by rw [HSZ.out]; omega))⟩
      rw [HM.out]
      exact HZR.out.rd' (by simp [u64s]; rw [HZA.out.1]; exact HM.out) (by have := HM.out; unfold maxLen; omega)

set_option maxHeartbeats 8000000 in
theorem runHits_S (w : World) (g : Nat) (rows : Int) (codec wd : Nat) (nulls : List Nat) (count : Nat) (list : List ByteArray) (ends : List Nat) (base : Int) (lanes : List Nat) (op : Int) (lits : List ByteArray) (lv : Value)
    (h : Ck_S w g rows codec wd nulls count list ends base lanes) (hcl : list.length = ends.length) (hcn : count ≤ 65536) (hel : ends.length ≤ 65536) (hup : ∀ a b, a < b → b < ends.length → ends.getD a 0 < ends.getD b 0) (hlast : endB ends ends.length = count) (hl : Lit_S w op lv lits) :
    Calls Tryz.prog 101 #[.pointer (some ⟨g, 0, none⟩), .agg #[.int .i64 op, lv]] w fun e w' => HitAns w w' e count (fun i => leafT op (lits.map pS) (pS (list.getD (firstGe (nI ends) ((i : Int) + 1)) default))) := by
  obtain ⟨A, c, rfl, _, _, _⟩ := hl.rd.form
  have HL := hid hl
  have HC := hid h
  obtain ⟨nu, v5, v6, nv, bef, hr, h2, h3, h4, h5, h6⟩ := h.ex
  obtain ⟨A5, c5, rfl, _, _, _⟩ := h3.form
  obtain ⟨A6, c6, rfl, _, _, _⟩ := h4.form
  obtain ⟨n, hn⟩ : ∃ n, ends.length = n := ⟨_, rfl⟩
  rw [hn] at hcl hel hlast
  rw [hcl, hn] at hr
  rw [hcl] at h3
  rw [hn] at h4
  have HUP := hid hup
  have HROW := hid hr
  have HLS := hid h3
  have HES := hid h4
  have HCL := hid hcl
  have HN := hid hn
  have HLAST := hid hlast
  clear h2 h3 h4 h5 h6 hr h hl hcl hn hlast hup
  have HB0 := hid ((brefl w).alloc (Nat.le_refl _) (.cells #[.int .i64 op, .slice A lits.length c] 106))
  have HRT : Hid (Row (w.alloc (.cells #[.int .i64 op, .slice A lits.length c] 106)) w.heap.size 106 [.int .i64 op, .slice A lits.length c]) := hid (by unfold Row; rw [heap_alloc_new])
  have HSZ : Hid ((w.alloc (.cells #[.int .i64 op, .slice A lits.length c] 106)).heap.size = w.heap.size + 1) := hid (by simp)
  have HR0 := hid (HROW.out.mono HB0.out)
  have HLS0 := hid (HLS.out.mono HB0.out)
  have HES0 := hid (HES.out.mono HB0.out)
  have HST := hid (BitsTo.start count (fun i => leafT op (lits.map pS) (pS (list.getD (firstGe (nI ends) ((i : Int) + 1)) default))))
  have HNB := hid (fun w2 => newBitmap_any count w2 (by omega))
  have HHO := hid (fun (w1 w2 : World) (v : ByteArray) (h1 : Below w.heap.size w w1) (h : Below w1.heap.size w1 w2) => ((HL.out.mono h1).mono h).holds v)
  obtain ⟨T, hT⟩ : ∃ T : ByteArray → Bool, ∀ v, leafT op (lits.map pS) (pS v) = T v := ⟨_, fun _ => rfl⟩
  simp only [hT] at HST HHO ⊢
  clear hT HL
  go_enter Tryz.func101, Tryz.ntmps101
  go_upto_region 1 with fail
  generalize w.alloc (.cells #[.int .i64 op, .slice A lits.length c] 106) = w0 at *
  have k4 : w0.cell? ⟨g, 0 + 4, none⟩ = some (.int .i64 count) := by rw [HR0.out.cell]; rfl
  go_upto_region 2 with (go_at_call 51; refine (HNB.out w0).mono ?_; rintro e w1 ⟨rfl, h1, h2, h3⟩; have HRW := hid h1; have HB1 := hid h2; have HZ1 := hid h3; clear h1 h2 h3)
  obtain ⟨q, hq⟩ : ∃ q, w0.heap.size = q := ⟨_, rfl⟩
  have HQ := hid hq
  rw [hq] at HRW HB1 HZ1 HSZ ⊢
  clear hq k4
  obtain ⟨m, hm⟩ : ∃ m, (count + 63) / 64 = m := ⟨_, rfl⟩
  have HM := hid hm
  simp only [hm] at HRW HST ⊢
  clear hm HNB
  have HR1 := hid (HR0.out.below HB1.out (by rw [← HQ.out]; exact HR0.out.lt))
  have k6 : w1.cell? ⟨g, 0 + 6, none⟩ = some (.slice A6 n c6) := by rw [HR1.out.cell]; rfl
  go_wp2_with fail
  clear k6
  go_loopw [6, 19] (fun u i wr => ∃ t s : Nat, t ≤ n ∧ s = endB ends t ∧ s ≤ 65536 ∧ u = .int .i64 s ∧ i = .int .i64 t ∧ Hid (∃ zs, BitsTo count s (fun i => T (list.getD (firstGe (nI ends) ((i : Int) + 1)) default)) zs ∧ Row wr q 40 (u64s zs)) ∧ Hid (Below q w0 wr) ∧ Hid (q < wr.heap.size)) (fun _ i _ => n - (intOf i).toNat)
  case atStart => exact ⟨0, 0, by omega, rfl, by omega, rfl, rfl, hid ⟨_, HST.out, HRW.out⟩, HB1, hid (by rw [HZ1.out]; omega)⟩
  case round =>
    obtain ⟨t, s, ht, hs, hs6, rfl, rfl, HR, HB, HZ⟩ := hrel
    have HS := hid hs
    clear hs
    by_cases hlt : t < n
    · obtain ⟨zs, hz1, hz2⟩ := HR.out
      have HZA := hid hz1
      have HZR := hid hz2
      clear hz1 hz2 HR
      have hbw : Below w0.heap.size w0 wr := by rw [HQ.out]; exact HB.out
      obtain ⟨b, o, rfl, hcells⟩ := (HLS0.out.mono hbw).at_S (by omega)
      have l0 := hcells t (by rw [HCL.out]; exact hlt)
      clear hcells
      obtain ⟨b2, o2, rfl, hcells⟩ := (HES0.out.mono hbw).atI (by omega)
      have l1 := hcells t (by rw [nI_length, HN.out]; exact hlt)
      rw [nI_get ends t (by rw [HN.out]; exact hlt)] at l1
      clear hcells
      have HRTw := hid (HRT.out.below HB.out (by have := HSZ.out; omega))
      have HRw := hid (HR0.out.mono hbw)
      have k5 : wr.cell? ⟨g, 0 + 5, none⟩ = some (.slice (some ⟨b, o, none⟩) n c5) := by rw [HRw.out.cell]; rfl
      obtain ⟨y0, y1⟩ := cellP HRTw.out
      have HHw := hid (fun (w2 : World) (v : ByteArray) (h : Below wr.heap.size wr w2) => HHO.out w0 w2 v HB0.out (bthen hbw h))
      obtain ⟨x, hx⟩ : ∃ x, list.getD t default = x := ⟨_, rfl⟩
      rw [hx] at l0
      have HX := hid hx
      obtain ⟨en, hen⟩ : ∃ en, ends.getD t 0 = en := ⟨_, rfl⟩
      rw [hen] at l1
      have HEN := hid hen
      have hse : s ≤ en := by rw [HS.out, ← hen]; exact endB_le HUP.out (by rw [HN.out]; exact hlt)
      have hec : en ≤ count := by rw [← hen, ← HLAST.out]; exact end_le_last HUP.out (by rw [HN.out]; exact hlt) HN.out
      have HFG : Hid (∀ i : Nat, s ≤ i → i < en → firstGe (nI ends) ((i : Int) + 1) = t) := hid (fun i h1 h2 => firstGe_run HUP.out (by rw [HN.out]; exact hlt) (by rw [← HS.out]; exact h1) (by rw [hen]; exact h2))
      have HSn : Hid (en = endB ends (t + 1)) := hid (by rw [← hen]; unfold endB; rw [if_neg (by omega)]; rfl)
      clear hx hen hbw
      obtain ⟨tv, htv⟩ : ∃ tv, T x = tv := ⟨_, rfl⟩
      have HTV := hid htv
      have HHx := hid (fun (w2 : World) (h : Below wr.heap.size wr w2) => HHw.out w2 x h)
      rw [htv] at HHx
      clear htv HHw
      have HSRA := hid (fun (w5 : World) (hr : Row w5 q 40 (u64s zs)) => setRange_any q m m s en zs w5 hr (by rw [HZA.out.1]; exact HM.out) hse (by have := HM.out; omega) (by have := HM.out; omega) (Nat.le_refl _) HZA.out.2.1)
      have hgl : g < wr.heap.size := HRw.out.lt
      have hbl : b < wr.heap.size := World.block_lt_of_cell? wr _ l0
      have hpl : w.heap.size < wr.heap.size := HRTw.out.lt
      cases tv
      · go_upto_region 6 with fail
        go_region_held3 (fun w' => w'.cell? ⟨w.heap.size, 0, none⟩ = some (.int .i64 op) ∧ w'.cell? ⟨w.heap.size, 1, none⟩ = some (.slice A lits.length c) ∧ w'.cell? ⟨g, 0 + 5, none⟩ = some (.slice (some ⟨b, o, none⟩) n c5) ∧ w'.cell? ⟨b, o + t, none⟩ = some (.string x)) (go_keep)
          (first
            | (go_at_call 149; refine (HHx.out _ (bdrew (brefl wr) 1)).mono ?_; rintro e w5 ⟨rfl, hb5⟩; have HB5 := hid ((bdrew (brefl wr) 1).trans hb5); have m0 := (hb5.cell (p := ⟨w.heap.size, 0, none⟩) hpl).trans y0; have m1 := (hb5.cell (p := ⟨w.heap.size, 1, none⟩) hpl).trans y1; have m2 := (hb5.cell (p := ⟨g, 0 + 5, none⟩) hgl).trans k5; have m3 := (hb5.cell (p := ⟨b, o + t, none⟩) hbl).trans l0; clear hb5))
        go_wp2_with fail
        go_roundw
        case rel =>
          refine ⟨t + 1, en, by omega, HSn.out, by omega, rfl, by go_num, hid ⟨zs, HZA.out.skip hse (fun i h1 h2 => ?_), HZR.out.mono HB5.out⟩, hid (HB.out.trans (HB5.out.mono (Nat.le_of_lt HZ.out))), hid (Nat.lt_of_lt_of_le HZ.out HB5.out.size)⟩
          show T (list.getD (firstGe (nI ends) ((i : Int) + 1)) default) = false
          rw [HFG.out i h1 h2, HX.out]; exact HTV.out
        case measure => simp [intOf]; omega
      · go_upto_region 6 with fail
        go_region_held3 (fun w' => w'.cell? ⟨w.heap.size, 0, none⟩ = some (.int .i64 op) ∧ w'.cell? ⟨w.heap.size, 1, none⟩ = some (.slice A lits.length c) ∧ w'.cell? ⟨g, 0 + 5, none⟩ = some (.slice (some ⟨b, o, none⟩) n c5) ∧ w'.cell? ⟨b, o + t, none⟩ = some (.string x)) (go_keep)
          (first
            | (go_at_call 149; refine (HHx.out _ (bdrew (brefl wr) 1)).mono ?_; rintro e w5 ⟨rfl, hb5⟩; have HB5 := hid ((bdrew (brefl wr) 1).trans hb5); have m0 := (hb5.cell (p := ⟨w.heap.size, 0, none⟩) hpl).trans y0; have m1 := (hb5.cell (p := ⟨w.heap.size, 1, none⟩) hpl).trans y1; have m2 := (hb5.cell (p := ⟨g, 0 + 5, none⟩) hgl).trans k5; have m3 := (hb5.cell (p := ⟨b, o + t, none⟩) hbl).trans l0; clear hb5))
        have HSRx := hid (HSRA.out w5 (HZR.out.mono HB5.out))
        go_wp2_with (go_at_call 150; refine HSRx.out.mono ?_; rintro e w6 ⟨rfl, hw6⟩; have HW6 := hid hw6; clear hw6)
        go_roundw
        case rel =>
          obtain ⟨zs', hz1, hz2, hz3, hz4, hz5, hz6⟩ := HW6.out
          have hb6 : Below q w0 w5 := HB.out.trans (HB5.out.mono (Nat.le_of_lt HZ.out))
          have hq5 : q < w5.heap.size := Nat.lt_of_lt_of_le HZ.out HB5.out.size
          refine ⟨t + 1, en, by omega, HSn.out, by omega, rfl, by go_num, hid ⟨zs', HZA.out.set (by rw [hz1]; exact HM.out.symm) hz2 hz3 hse (fun i h1 h2 => ?_), hz4⟩, hid (hz5.below hb6 (Nat.le_of_lt hq5) (Nat.le_refl _) (Nat.le_refl _)), hid (by rw [hz6]; exact hq5)⟩
          show T (list.getD (firstGe (nI ends) ((i : Int) + 1)) default) = true
          rw [HFG.out i h1 h2, HX.out]; exact HTV.out
        case measure => simp [intOf]; omega
    · obtain rfl : t = n := by omega
      obtain ⟨zs, hz1, hz2⟩ := HR.out
      have HZA := hid hz1
      have HZR := hid hz2
      have hsc : s = count := by rw [HS.out, HLAST.out]
      clear hz1 hz2 HR
      go_wp2_with fail
      go_ret
      refine ⟨_, zs, rfl, ?_, ?_, HB0.out.trans (HB.out.mono (by rw [HSZ.out]; omega))⟩
      · have h1 := HZA.out
        rw [hsc] at h1; exact h1
      rw [HM.out]
      exact HZR.out.rd' (by simp [u64s]; rw [HZA.out.1]; exact HM.out) (by have := HM.out; unfold maxLen; omega)
end Go.Proofs.YthonbfojpbfmgaaGreatDoor

/- Package kernel: literals carried over into the domain of the lanes (strings). -/
set_option linter.unusedVariables false
set_option linter.unusedSimpArgs false
set_option linter.unnecessarySimpa false
set_option maxRecDepth 100000
namespace Go.Proofs.YthonbfojpbfmgaaGreatDoor
open Go.RowKit

/-- literals and codecs that come into question -/
def okL_S (x : ByteArray) : Prop := True
def cdL_S (cd : Nat) : Prop := cd = 2
def lnC_S (cd : Nat) (list : List ByteArray) (base : Int) (lit : ByteArray) : Nat := firstGeS list lit
def lnE_S (cd : Nat) (list : List ByteArray) (base : Int) (lit : ByteArray) : Bool := foundS list lit
theorem firstGeS_le' (es : List ByteArray) (t : ByteArray) : firstGeS es t ≤ es.length := List.findIdx_le_length
set_option maxHeartbeats 4000000 in
theorem laneOf_S (w : World) (g : Nat) (rows : Int) (codec wd : Nat) (nulls : List Nat) (count : Nat) (list : List ByteArray) (ends : List Nat) (base : Int) (lanes : List Nat) (lit : ByteArray)
    (h : Ck_S w g rows codec wd nulls count list ends base lanes) (hll : list.length ≤ 1048576) (hup : codec = 2 → ∀ a b, a < b → b < list.length → ltS (list.getD a ByteArray.empty) (list.getD b ByteArray.empty) = true) (hcd : cdL_S codec) (hb : okI base) (hlr : okL_S lit) :
    Calls Tryz.prog 191 #[.iface 66 (.agg #[]), .pointer (some ⟨g, 0, none⟩), .string lit] w fun e w' => e = .returned (.tuple #[.int .u64 (lnC_S codec list base lit), .bool (lnE_S codec list base lit)]) ∧ Below w.heap.size w w' := by
  obtain ⟨nu, v5, ev, nv, bef, hr, h2, h3, h4, h5, h6⟩ := h.ex
  have HUP := hid hup
  have HB64 := hid (fun hh w2 hb2 => BinarySearchSf_any v5 list lit w2 (h3.mono hb2) hll (hup hh))
  obtain ⟨A5, c5, rfl, _, _, _⟩ := h3.form
  have c1 : w.cell? ⟨g, 0 + 1, none⟩ = some (.int .i64 codec) := by rw [hr.cell]; rfl
  have c5' : w.cell? ⟨g, 0 + 5, none⟩ = some (.slice A5 list.length c5) := by rw [hr.cell]; rfl
  have c7 : w.cell? ⟨g, 0 + 7, none⟩ = some (.int .i64 base) := by rw [hr.cell]; rfl
  have HR := hid hr
  clear h2 h3 h4 h5 h6 hr h hup
  obtain rfl : codec = 2 := hcd
  have HBS := hid (HB64.out rfl w (brefl w))
  have hfl : firstGeS list lit ≤ list.length := firstGeS_le' list lit
  have e1 : lnC_S 2 list base lit = firstGeS list lit := rfl
  have e2 : lnE_S 2 list base lit = foundS list lit := rfl
  rw [e1, e2]
  clear HB64 c7 e1 e2
  generalize foundS list lit = fd at *
  generalize firstGeS list lit = r at *
  have hru : IntKind.u64.wrap (r : Int) = (r : Int) := by rw [IntKind.wrap_u64]; omega
  go_enter Tryz.func191, Tryz.ntmps191
  go_wp2_with (go_at_call 190; refine HBS.out.mono ?_; rintro e w1 ⟨rfl, nn, hw1⟩; have HB1 : Hid (Below w.heap.size w w1) := (hid (by rw [hw1]; exact bdrew (brefl w) nn)); clear hw1 c1 c5')
  go_ret2
  exact ⟨rfl, HB1.out⟩

set_option maxHeartbeats 8000000 in
theorem compareLanes_S (w : World) (g : Nat) (rows : Int) (codec wd : Nat) (nulls : List Nat) (count : Nat) (list : List ByteArray) (ends : List Nat) (base : Int) (lanes : List Nat) (op : Int) (lit : ByteArray)
    (h : Ck_S w g rows codec wd nulls count list ends base lanes) (hT : Tab w) (hll : list.length ≤ 1048576) (hup : codec = 2 → ∀ a b, a < b → b < list.length → ltS (list.getD a ByteArray.empty) (list.getD b ByteArray.empty) = true) (hcd : cdL_S codec) (hb : okI base) (hlr : okL_S lit)
    (ho : 1 ≤ op ∧ op ≤ 6) (hlv : ∀ x ∈ lanes, x < 18446744073709551616) (hlm : lanes.length ≤ 16777216) (hlc : lnC_S codec list base lit < 18446744073709551616) :
    Calls Tryz.prog 152 #[.iface 66 (.agg #[]), .pointer (some ⟨g, 0, none⟩), .int .i64 op, .string lit] w fun e w' =>
      ∃ r, e = .returned r ∧ w'.ownsRow w.heap.size 40 1 r (cmpR wd count (laO (lnE_S codec list base lit) op) lanes (laC (lnE_S codec list base lit) op (lnC_S codec list base lit))).length (u64s (cmpR wd count (laO (lnE_S codec list base lit) op) lanes (laC (lnE_S codec list base lit) op (lnC_S codec list base lit)))) ∧ Below w.heap.size w w' := by
  have HLN := hid (laneOf_S w g rows codec wd nulls count list ends base lanes lit h hll hup hcd hb hlr)
  obtain ⟨nu, v5, ev, v8, bef, hr, h2, h3, h4, h5, h6⟩ := h.ex
  have HT := hid hT
  have HTL := hid (fun (w2 : World) (h : Below w.heap.size w w2) => hT.mono h hT.lt)
  have HLV := hid hlv
  have hlm2 : lanes.length ≤ maxLen := by unfold maxLen; omega
  have HCM := hid (fun (w2 : World) (h : Below w.heap.size w w2) (op' : Int) (c' : Nat) (hc : c' < 18446744073709551616) => Compare_any v8 lanes wd count op' c' w2 (hT.mono h hT.lt) (h5.mono h) hlv hc hlm2)
  obtain ⟨A8, c8, rfl, _, _, _⟩ := h5.form
  have HR := hid hr
  clear hr h2 h3 h4 h5 h6 h hup hb hlr hlv hT
  obtain ⟨E, hE⟩ : ∃ E, lnE_S codec list base lit = E := ⟨_, rfl⟩
  rw [hE] at HLN ⊢
  generalize lnC_S codec list base lit = C at *
  clear hE
  have hgl : g < w.heap.size := HR.out.lt
  cases E
  · have HBE := hid (fun w2 => besides_any op C w2 ho)
    have hcl := Nat.lt_of_le_of_lt (laC_le false op C) hlc
    have e1 : laO false op = besO op := rfl
    have e2 : laC false op C = besC op C := rfl
    rw [e2] at hcl
    rw [e1, e2]
    clear e1 e2
    generalize besO op = op' at *
    generalize besC op C = C' at *
    have HCMx := hid (fun (w2 : World) (h : Below w.heap.size w w2) => HCM.out w2 h op' C' hcl)
    clear HCM
    generalize cmpR wd count op' lanes C' = R at *
    generalize cmpOk wd count op' lanes = OK at *
    go_enter Tryz.func152, Tryz.ntmps152
    go_upto_region 4 with (first
      | (go_at_call 191; refine HLN.out.mono ?_; rintro e w1 ⟨rfl, hb1⟩; have HB1 := hid hb1; clear hb1)
      | (go_at_call 192; refine (HBE.out w1).mono ?_; rintro e w2 ⟨rfl, rfl⟩))
    have HR1 := hid (HR.out.mono HB1.out)
    have k8 : w2.cell? ⟨g, 0 + 8, none⟩ = some (.slice A8 lanes.length c8) := by rw [HR1.out.cell]; rfl
    have k2 : w2.cell? ⟨g, 0 + 2, none⟩ = some (.int .i64 wd) := by rw [HR1.out.cell]; rfl
    have k4 : w2.cell? ⟨g, 0 + 4, none⟩ = some (.int .i64 count) := by rw [HR1.out.cell]; rfl
    have hg1 : g < w2.heap.size := HR1.out.lt
    go_region_held3 (fun w' => w'.cell? ⟨g, 0 + 8, none⟩ = some (.slice A8 lanes.length c8) ∧ w'.cell? ⟨g, 0 + 2, none⟩ = some (.int .i64 wd) ∧ w'.cell? ⟨g, 0 + 4, none⟩ = some (.int .i64 count)) (go_keep)
      (first
        | (go_at_call 52; refine (HCMx.out _ (bdrew HB1.out 1)).mono ?_; rintro e w5 ⟨r, rfl, ho5, hb5⟩; have HO5 := hid ho5; have HB5 := hid ((bdrew (brefl w2) 1).trans hb5); have m0 := (hb5.cell (p := ⟨g, 0 + 8, none⟩) hg1).trans k8; have m1 := (hb5.cell (p := ⟨g, 0 + 2, none⟩) hg1).trans k2; have m2 := (hb5.cell (p := ⟨g, 0 + 4, none⟩) hg1).trans k4; clear hb5 ho5))
    all_goals go_wp2_with fail
    all_goals go_ret
    all_goals exact ⟨r, rfl, owns_low HO5.out HB1.out.size, bthen HB1.out HB5.out⟩
  · have hcl := Nat.lt_of_le_of_lt (laC_le true op C) hlc
    have e1 : laO true op = op := rfl
    have e2 : laC true op C = C := rfl
    rw [e2] at hcl
    rw [e1, e2]
    clear e1 e2
    have HCMx := hid (fun (w2 : World) (h : Below w.heap.size w w2) => HCM.out w2 h op C hcl)
    clear HCM
    generalize cmpR wd count op lanes C = R at *
    generalize cmpOk wd count op lanes = OK at *
    go_enter Tryz.func152, Tryz.ntmps152
    go_upto_region 4 with (first
      | (go_at_call 191; refine HLN.out.mono ?_; rintro e w1 ⟨rfl, hb1⟩; have HB1 := hid hb1; clear hb1))
    have HR1 := hid (HR.out.mono HB1.out)
    have k8 : w1.cell? ⟨g, 0 + 8, none⟩ = some (.slice A8 lanes.length c8) := by rw [HR1.out.cell]; rfl
    have k2 : w1.cell? ⟨g, 0 + 2, none⟩ = some (.int .i64 wd) := by rw [HR1.out.cell]; rfl
    have k4 : w1.cell? ⟨g, 0 + 4, none⟩ = some (.int .i64 count) := by rw [HR1.out.cell]; rfl
    have hg1 : g < w1.heap.size := HR1.out.lt
    go_region_held3 (fun w' => w'.cell? ⟨g, 0 + 8, none⟩ = some (.slice A8 lanes.length c8) ∧ w'.cell? ⟨g, 0 + 2, none⟩ = some (.int .i64 wd) ∧ w'.cell? ⟨g, 0 + 4, none⟩ = some (.int .i64 count)) (go_keep)
      (first
        | (go_at_call 52; refine (HCMx.out _ (bdrew HB1.out 1)).mono ?_; rintro e w5 ⟨r, rfl, ho5, hb5⟩; have HO5 := hid ho5; have HB5 := hid ((bdrew (brefl w1) 1).trans hb5); have m0 := (hb5.cell (p := ⟨g, 0 + 8, none⟩) hg1).trans k8; have m1 := (hb5.cell (p := ⟨g, 0 + 2, none⟩) hg1).trans k2; have m2 := (hb5.cell (p := ⟨g, 0 + 4, none⟩) hg1).trans k4; clear hb5 ho5))
    all_goals go_wp2_with fail
    all_goals go_ret
    all_goals exact ⟨r, rfl, owns_low HO5.out HB1.out.size, bthen HB1.out HB5.out⟩
end Go.Proofs.YthonbfojpbfmgaaGreatDoor

/- Package kernel: hits out of lanes (strings). -/
set_option linter.unusedVariables false
set_option linter.unusedSimpArgs false
set_option linter.unnecessarySimpa false
set_option maxRecDepth 100000
namespace Go.Proofs.YthonbfojpbfmgaaGreatDoor
open Go.RowKit

/-- a chunk's lanes: what is known of them -/
structure LnD_S (codec wd count : Nat) (list : List ByteArray) (base : Int) (lanes : List Nat) : Prop where
  cd : codec = 2 ∨ codec = 4 ∨ codec = 5
  cd2 : cdL_S codec
  ok : okPack wd count lanes = true
  lv : ∀ x ∈ lanes, x < 18446744073709551616
  lm : lanes.length ≤ 16777216
  ll : list.length ≤ 1048576
  cn : count ≤ 65536
  up : codec = 2 → ∀ a b, a < b → b < list.length → ltS (list.getD a ByteArray.empty) (list.getD b ByteArray.empty) = true
  inl : codec = 2 → ∀ j, j < count → L.laneOf wd lanes j < list.length
  b : okI base
  rm : codec ≠ 2 → ∀ j, j < count → base + (L.laneOf wd lanes j : Int) ≤ 9223372036854775807
theorem firstGeS_iff {es : List ByteArray} {t : ByteArray} (hup : ∀ a b, a < b → b < es.length → ltS (es.getD a ByteArray.empty) (es.getD b ByteArray.empty) = true) {a : Nat} (ha : a < es.length) : a < firstGeS es t ↔ ltS (es.getD a ByteArray.empty) t = true := by
  have hg : ∀ (i : Nat) (h : i < es.length), es.getD i ByteArray.empty = es[i] := fun i h => by simp [List.getD, List.getElem?_eq_getElem h]
  constructor
  · intro h
    have h1 := List.not_of_lt_findIdx (p := fun e => !ltS e t) (xs := es) h
    rw [hg a ha]
    simpa using h1
  · intro h
    rcases Nat.lt_or_ge a (firstGeS es t) with h1 | h1
    · exact h1
    · exfalso
      have hr : firstGeS es t < es.length := by omega
      have h2 := List.findIdx_getElem (p := fun e => !ltS e t) (xs := es) (w := hr)
      have h3 : ltS (es.getD (firstGeS es t) ByteArray.empty) t = false := by rw [hg _ hr]; have h22 : (!ltS es[firstGeS es t] t) = true := h2; simpa using h22
      by_cases he : a = firstGeS es t
      · rw [he, h3] at h; cases h
      · have h4 := hup _ _ (show firstGeS es t < a by omega) ha
        have h5 := ltS_up h4 h3
        rw [h5] at h; cases h
theorem firstGeS_mem {es : List ByteArray} {t : ByteArray} (hup : ∀ a b, a < b → b < es.length → ltS (es.getD a ByteArray.empty) (es.getD b ByteArray.empty) = true) {a : Nat} (ha : a < es.length) : es.getD a ByteArray.empty = t ↔ (t ∈ es ∧ a = firstGeS es t) := by
  have hg : ∀ (i : Nat) (h : i < es.length), es.getD i ByteArray.empty = es[i] := fun i h => by simp [List.getD, List.getElem?_eq_getElem h]
  constructor
  · intro h
    refine ⟨by rw [← h, hg a ha]; exact List.getElem_mem ha, ?_⟩
    exact (firstGeS_eq es t a (Nat.le_of_lt ha) (fun b hb => by rw [← h]; exact hup b a hb ha) (fun _ => by rw [h]; exact bytesLess_self _)).symm
  · rintro ⟨h1, h2⟩
    obtain ⟨i, hi, he⟩ := List.getElem_of_mem h1
    have h3 : firstGeS es t = i := firstGeS_eq es t i (Nat.le_of_lt hi) (fun b hb => by rw [← he, ← hg i hi]; exact hup b i hb hi) (fun _ => by rw [hg i hi, he]; exact bytesLess_self _)
    rw [h2, h3, hg i hi, he]
theorem vl_two_S (wd : Nat) (list : List ByteArray) (ends : List Nat) (base : Int) (lanes : List Nat) (j : Nat) : vl_S 2 wd list ends base lanes j = list.getD (L.laneOf wd lanes j) ByteArray.empty := by
  unfold vl_S val_S
  rw [if_neg (by omega), if_pos rfl]; rfl
theorem sg_S (v l : ByteArray) : ((ordP (pS v) (pS l) < 0) ↔ ltS v l = true) ∧ (ordP (pS v) (pS l) = 0 ↔ v = l) := by
  rw [ordP_pSS]
  have h0 : eqS v l = true ↔ v = l := ⟨fun h => ba_ext (eq_of_beq h), fun h => by rw [h]; unfold eqS; simp⟩
  have h1 : eqS v l = true → ltS v l = false := fun h => lt_eq_S h
  unfold ordS
  constructor
  · cases ltS v l <;> cases eqS v l <;> simp
  · rw [← h0]
    cases h2 : ltS v l <;> cases h3 : eqS v l <;> simp
    rw [h2] at h1; exact absurd (h1 h3) (by simp)
theorem lane_rel_S {codec wd count : Nat} {list : List ByteArray} {base : Int} {lanes : List Nat} (d : LnD_S codec wd count list base lanes) (ends : List Nat) (op : Int) (ho : 1 ≤ op ∧ op ≤ 6) (lit : ByteArray) {j : Nat} (hj : j < count) :
    cmpF wd (laO (lnE_S codec list base lit) op) lanes (laC (lnE_S codec list base lit) op (lnC_S codec list base lit)) j = standsS op (ordP (pS (vl_S codec wd list ends base lanes j)) (pS lit)) := by
  unfold cmpF
  obtain ⟨s1, s2⟩ := sg_S (vl_S codec wd list ends base lanes j) lit
  obtain rfl : codec = 2 := d.cd2
  refine rel_lane op ho _ _ _ _ (s1.trans ?_) (s2.trans ?_)
  · rw [vl_two_S, ← firstGeS_iff (d.up rfl) (d.inl rfl j hj)]
    unfold lnC_S; rfl
  · rw [vl_two_S, firstGeS_mem (d.up rfl) (d.inl rfl j hj)]
    unfold lnC_S lnE_S; rw [foundS_iff]
theorem lnC_lt_S {codec wd count : Nat} {list : List ByteArray} {base : Int} {lanes : List Nat} (d : LnD_S codec wd count list base lanes) (lit : ByteArray) (hl : okL_S lit) : lnC_S codec list base lit < 18446744073709551616 := by
  have := d.ll
  unfold lnC_S
  have := firstGeS_le' list lit
  omega
/-- the bits of one comparison -/
theorem comp_S (w : World) (g : Nat) (rows : Int) (codec wd : Nat) (nulls : List Nat) (count : Nat) (list : List ByteArray) (ends : List Nat) (base : Int) (lanes : List Nat) (op : Int) (lit : ByteArray)
    (h : Ck_S w g rows codec wd nulls count list ends base lanes) (hT : Tab w) (d : LnD_S codec wd count list base lanes) (hlr : okL_S lit) (ho : 1 ≤ op ∧ op ≤ 6) :
    Calls Tryz.prog 152 #[.iface 66 (.agg #[]), .pointer (some ⟨g, 0, none⟩), .int .i64 op, .string lit] w fun e w' =>
      ∃ r zs, e = .returned r ∧ BitsOf count (fun j => standsS op (ordP (pS (vl_S codec wd list ends base lanes j)) (pS lit))) zs ∧ w'.ownsRow w.heap.size 40 1 r ((count + 63) / 64) (u64s zs) ∧ Below w.heap.size w w' := by
  refine (compareLanes_S w g rows codec wd nulls count list ends base lanes op lit h hT d.ll d.up d.cd2 d.b hlr ho d.lv d.lm (lnC_lt_S d lit hlr)).mono ?_
  rintro e w' ⟨r, rfl, h1, h2⟩
  have hb := cmpR_bits wd count (laO (lnE_S codec list base lit) op) lanes (laC (lnE_S codec list base lit) op (lnC_S codec list base lit)) (by unfold cmpOk; rw [laO_rel _ _ ho, d.ok]; rfl)
  refine ⟨r, _, rfl, ⟨hb.1, hb.2.1, fun i => ?_⟩, by rw [← hb.1]; exact h1, h2⟩
  rw [hb.2.2]
  by_cases hi : i < count
  · rw [lane_rel_S d ends op ho lit hi]
  · simp [hi]
end Go.Proofs.YthonbfojpbfmgaaGreatDoor
