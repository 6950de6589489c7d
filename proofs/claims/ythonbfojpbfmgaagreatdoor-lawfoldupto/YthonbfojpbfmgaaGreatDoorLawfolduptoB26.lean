/- The document's leaf as mathematics: the hits that are counted over the literals. -/
import Derived.Test.YthonbfojpbfmgaaGreatDoorLawfolduptoB18
import Derived.Test.YthonbfojpbfmgaaGreatDoorLawfolduptoB19
import Derived.Test.YthonbfojpbfmgaaGreatDoorLawfolduptoB11
import Derived.Test.YthonbfojpbfmgaaGreatDoorLawfolduptoB20
import Derived.Test.YthonbfojpbfmgaaGreatDoorLawfolduptoB5
import Derived.Test.YthonbfojpbfmgaaGreatDoorLawfolduptoB7
import Derived.Test.YthonbfojpbfmgaaGreatDoorLawfolduptoB24
import Derived.Test.YthonbfojpbfmgaaGreatDoorLawfolduptoB17
set_option linter.unusedVariables false
set_option linter.unusedSimpArgs false
set_option linter.unnecessarySimpa false
set_option maxRecDepth 100000
namespace Go.Proofs.YthonbfojpbfmgaaGreatDoor
open Go.RowKit

end Go.Proofs.YthonbfojpbfmgaaGreatDoor

/- Package codec: cells parted into values and the bitmap of the NULLs (strings). -/
set_option linter.unusedVariables false
set_option linter.unusedSimpArgs false
set_option linter.unnecessarySimpa false
set_option maxRecDepth 100000
namespace Go.Proofs.YthonbfojpbfmgaaGreatDoor
open Go.RowKit

end Go.Proofs.YthonbfojpbfmgaaGreatDoor

/- Package kernel: the test of a leaf, of strings. -/
set_option linter.unusedVariables false
set_option linter.unusedSimpArgs false
set_option linter.unnecessarySimpa false
set_option maxRecDepth 100000
namespace Go.Proofs.YthonbfojpbfmgaaGreatDoor
open Go.RowKit

end Go.Proofs.YthonbfojpbfmgaaGreatDoor

/- Package codec: runs of strings put into bytes. -/
set_option linter.unusedVariables false
set_option linter.unusedSimpArgs false
set_option linter.unnecessarySimpa false
set_option maxRecDepth 100000
namespace Go.Proofs.YthonbfojpbfmgaaGreatDoor
open Go.RowKit

theorem eqP_pS (x y : ByteArray) : eqP (pS x) (pS y) = (y.toList == x.toList) := by
  have h0 : ordP (pS x) (pS y) = ordS x y := by
    unfold ordP pS
    simp only [Int.lt_irrefl, if_false]
  unfold eqP
  rw [h0]
  unfold ordS ltS eqS
  by_cases h : x.toList = y.toList
  · rw [h, bytesLess_self]; simp
  · have h1 : (x.toList == y.toList) = false := beq_eq_false_iff_ne.2 h
    have h2 : (y.toList == x.toList) = false := beq_eq_false_iff_ne.2 (fun e => h e.symm)
    rw [h1, h2]
    cases Op.bytesLess x.toList y.toList <;> simp
end Go.Proofs.YthonbfojpbfmgaaGreatDoor

/- Package kernel: whether a test holds for a string. -/
set_option linter.unusedVariables false
set_option linter.unusedSimpArgs false
set_option linter.unnecessarySimpa false
set_option maxRecDepth 100000
namespace Go.Proofs.YthonbfojpbfmgaaGreatDoor
open Go.RowKit

theorem ordP_pSS (v l : ByteArray) : ordP (pS v) (pS l) = ordS v l := by
  unfold ordP pS
  simp only [Int.lt_irrefl, if_false]
theorem lt_eq_S {x y : ByteArray} (h : (x.toList == y.toList) = true) : Op.bytesLess x.toList y.toList = false := by
  rw [eq_of_beq h]; exact bytesLess_self _
theorem standsS_S (op : Int) (v l : ByteArray) : standsS op (ordP (pS v) (pS l)) =
    (if op = 1 then (v.toList == l.toList) else if op = 2 then !(v.toList == l.toList) else if op = 3 then Op.bytesLess v.toList l.toList else if op = 4 then Op.bytesLess v.toList l.toList || (v.toList == l.toList) else if op = 5 then !(Op.bytesLess v.toList l.toList || (v.toList == l.toList)) else decide (op = 6) && !Op.bytesLess v.toList l.toList) := by
  rw [ordP_pSS]
  have h1 := @lt_eq_S v l
  unfold standsS ordS ltS eqS
  generalize Op.bytesLess v.toList l.toList = p at *
  generalize (v.toList == l.toList) = q at *
  cases p <;> cases q <;> simp at h1 ⊢
theorem leafT_oneS (op : Int) (v l : ByteArray) (h : 1 ≤ op ∧ op ≤ 6) : leafT op ([l].map pS) (pS v) = standsS op (ordP (pS v) (pS l)) := by
  unfold leafT
  rw [if_neg (by omega), if_neg (by omega)]; rfl
theorem leafT_inS (v : ByteArray) (ls : List ByteArray) : leafT 7 (ls.map pS) (pS v) = foundS ls v := by
  unfold leafT
  rw [if_pos rfl, Bool.eq_iff_iff, List.any_eq_true, foundS_iff]
  constructor
  · rintro ⟨x, h1, h2⟩
    obtain ⟨y, hy, rfl⟩ := List.mem_map.1 h1
    rw [eqP_pS] at h2
    rw [← ba_ext (eq_of_beq h2)]; exact hy
  · intro h
    exact ⟨pS v, List.mem_map.2 ⟨v, h, rfl⟩, by rw [eqP_pS]; simp⟩
theorem leafT_twoS (v a b : ByteArray) : leafT 8 ([a, b].map pS) (pS v) = (!Op.bytesLess v.toList a.toList && (Op.bytesLess v.toList b.toList || (v.toList == b.toList))) := by
  unfold leafT
  rw [if_neg (by decide), if_pos rfl]
  show (decide (0 ≤ ordP (pS v) (pS a)) && decide (ordP (pS v) (pS b) ≤ 0)) = _
  rw [ordP_pSS, ordP_pSS]
  unfold ordS ltS eqS
  congr 1
  · cases Op.bytesLess v.toList a.toList <;> cases (v.toList == a.toList) <;> rfl
  · cases Op.bytesLess v.toList b.toList <;> cases (v.toList == b.toList) <;> rfl
set_option maxHeartbeats 8000000 in
theorem holdsS_any (op : Int) (lits : List ByteArray) (lv : Value) (v : ByteArray) (w : World) (hl : Rd w lv lits.length 1 (strs lits)) (hok : litsOk op lits.length) (hup : op = 7 → (∀ a b, a < b → b < lits.length → ltS (lits.getD a ByteArray.empty) (lits.getD b ByteArray.empty) = true)) (hll : lits.length ≤ 1048576) :
    Calls Tryz.prog 149 #[.agg #[.int .i64 op, lv], .string v] w fun e w' => e = .returned (.bool (leafT op (lits.map pS) (pS v))) ∧ Below w.heap.size w w' := by
  obtain ⟨ho1, ho2, ho3, ho4⟩ := hok
  have HL := hid hl
  obtain ⟨A, c, rfl, _, _, _⟩ := hl.form
  have HB0 := hid ((brefl w).alloc (Nat.le_refl _) (.cells #[.int .i64 op, .slice A lits.length c] 106))
  have HRT : Hid (Row (w.alloc (.cells #[.int .i64 op, .slice A lits.length c] 106)) w.heap.size 106 [.int .i64 op, .slice A lits.length c]) := hid (by unfold Row; rw [heap_alloc_new])
  clear hl
  have hcase : op ≤ 6 ∨ op = 7 ∨ op = 8 := by omega
  rcases hcase with h6 | rfl | rfl
  · obtain ⟨l0, rfl⟩ : ∃ l0, lits = [l0] := by
      have := ho3 h6
      match lits, this with
      | [x], _ => exact ⟨x, rfl⟩
    rw [leafT_oneS op v l0 ⟨ho1, h6⟩, standsS_S]
    have hop : op = 1 ∨ op = 2 ∨ op = 3 ∨ op = 4 ∨ op = 5 ∨ op = 6 := by omega
    clear ho1 ho2 ho3 ho4 h6 hup hll
    obtain ⟨b, o, rfl, hs⟩ := (HL.out.mono HB0.out).atS (by simp)
    have c0 := hs 0 (by simp)
    simp only [List.getD_cons_zero, Nat.add_zero] at c0
    simp only [List.length_singleton] at HB0 HRT c0 ⊢
    clear hs HL
    rcases hop with rfl | rfl | rfl | rfl | rfl | rfl
    · go_enter Tryz.func149, Tryz.ntmps149
      go_upto_region 1 with fail
      generalize w.alloc (.cells #[.int .i64 1, .slice (some ⟨b, o, none⟩) 1 c] 106) = w0 at *
      obtain ⟨k0, k1⟩ := cellP HRT.out
      go_wp2_with fail
      all_goals go_ret
      all_goals exact ⟨ret_bool (by first | rfl | simp), HB0.out⟩
    · go_enter Tryz.func149, Tryz.ntmps149
      go_upto_region 1 with fail
      generalize w.alloc (.cells #[.int .i64 2, .slice (some ⟨b, o, none⟩) 1 c] 106) = w0 at *
      obtain ⟨k0, k1⟩ := cellP HRT.out
      go_wp2_with fail
      all_goals go_ret
      all_goals exact ⟨ret_bool (by first | rfl | simp), HB0.out⟩
    · go_enter Tryz.func149, Tryz.ntmps149
      go_upto_region 1 with fail
      generalize w.alloc (.cells #[.int .i64 3, .slice (some ⟨b, o, none⟩) 1 c] 106) = w0 at *
      obtain ⟨k0, k1⟩ := cellP HRT.out
      go_wp2_with fail
      all_goals go_ret
      all_goals exact ⟨ret_bool (by first | rfl | simp), HB0.out⟩
    · go_enter Tryz.func149, Tryz.ntmps149
      go_upto_region 1 with fail
      generalize w.alloc (.cells #[.int .i64 4, .slice (some ⟨b, o, none⟩) 1 c] 106) = w0 at *
      obtain ⟨k0, k1⟩ := cellP HRT.out
      go_wp2_with fail
      all_goals go_ret
      all_goals exact ⟨ret_bool (by first | rfl | simp), HB0.out⟩
    · go_enter Tryz.func149, Tryz.ntmps149
      go_upto_region 1 with fail
      generalize w.alloc (.cells #[.int .i64 5, .slice (some ⟨b, o, none⟩) 1 c] 106) = w0 at *
      obtain ⟨k0, k1⟩ := cellP HRT.out
      go_wp2_with fail
      all_goals go_ret
      all_goals exact ⟨ret_bool (by first | rfl | simp), HB0.out⟩
    · go_enter Tryz.func149, Tryz.ntmps149
      go_upto_region 1 with fail
      generalize w.alloc (.cells #[.int .i64 6, .slice (some ⟨b, o, none⟩) 1 c] 106) = w0 at *
      obtain ⟨k0, k1⟩ := cellP HRT.out
      go_wp2_with fail
      all_goals go_ret
      all_goals exact ⟨ret_bool (by first | rfl | simp), HB0.out⟩
  · have hp := hup rfl
    have HUP := hid (hp)
    clear hup hp ho1 ho2 ho3 ho4
    rw [leafT_inS]
    have HBS := hid (fun (w2 : World) (h : Below w.heap.size w w2) => BinarySearchSf_any (.slice A lits.length c) lits v w2 (HL.out.mono h) hll HUP.out)
    generalize foundS lits v = fd at *
    generalize lits.length = n at *
    generalize firstGeS lits v = fg at *
    go_enter Tryz.func149, Tryz.ntmps149
    go_upto_region 1 with fail
    generalize w.alloc (.cells #[.int .i64 7, .slice A n c] 106) = w0 at *
    obtain ⟨k0, k1⟩ := cellP HRT.out
    go_wp2_with (go_at_call 190; refine (HBS.out w0 HB0.out).mono ?_; rintro e w5 ⟨rfl, nn, hw5⟩; have HB5 : Hid (Below w0.heap.size w0 w5) := (hid (by rw [hw5]; exact bdrew (brefl w0) nn)); clear hw5 k0 k1)
    go_ret
    exact ⟨rfl, HB0.out.trans (HB5.out.mono HB0.out.size)⟩
  · obtain ⟨a, b2, rfl⟩ : ∃ a b2, lits = [a, b2] := by
      have := ho4 rfl
      match lits, this with
      | [x, y], _ => exact ⟨x, y, rfl⟩
    rw [leafT_twoS]
    clear ho1 ho2 ho3 ho4 hup hll
    obtain ⟨b, o, rfl, hs⟩ := (HL.out.mono HB0.out).atS (by simp)
    have c0 := hs 0 (by simp)
    have c1 := hs 1 (by simp)
    simp only [List.getD_cons_zero, List.getD_cons_succ, Nat.add_zero] at c0 c1
    have hl2 : [a, b2].length = 2 := rfl
    simp only [hl2] at HB0 HRT c0 c1 ⊢
    clear hs HL hl2
    cases h1 : Op.bytesLess v.toList a.toList
    · go_enter Tryz.func149, Tryz.ntmps149
      go_upto_region 1 with fail
      generalize w.alloc (.cells #[.int .i64 8, .slice (some ⟨b, o, none⟩) 2 c] 106) = w0 at *
      obtain ⟨k0, k1⟩ := cellP HRT.out
      go_wp2_with fail
      all_goals go_ret
      all_goals exact ⟨ret_bool (by simp [h1]), HB0.out⟩
    · go_enter Tryz.func149, Tryz.ntmps149
      go_upto_region 1 with fail
      generalize w.alloc (.cells #[.int .i64 8, .slice (some ⟨b, o, none⟩) 2 c] 106) = w0 at *
      obtain ⟨k0, k1⟩ := cellP HRT.out
      go_wp2_with fail
      all_goals go_ret
      all_goals exact ⟨ret_bool (by simp [h1]), HB0.out⟩
end Go.Proofs.YthonbfojpbfmgaaGreatDoor
