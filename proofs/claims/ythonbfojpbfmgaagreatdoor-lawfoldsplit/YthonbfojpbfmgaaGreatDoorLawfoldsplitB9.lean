/- The plain answer: dictionaries. -/
import Derived.Test.YthonbfojpbfmgaaGreatDoorLawfoldsplitB8
import Derived.Test.YthonbfojpbfmgaaGreatDoorLawfoldsplitB7
import Derived.Test.YthonbfojpbfmgaaGreatDoorLawfoldsplitB6
import Derived.Deep.RegionHeld3
set_option linter.unusedVariables false
set_option linter.unusedSimpArgs false
set_option linter.unnecessarySimpa false
set_option maxRecDepth 100000
namespace Go.Proofs.YthonbfojpbfmgaaGreatDoor
open Go.RowKit

abbrev PV := Int × ByteArray
def geP (a b : PV) : Bool := decide (0 ≤ ordP a b)
def eqP (a b : PV) : Bool := decide (ordP a b = 0)
def dN (p : Nat) (xs : List Nat) : Nat := if numOk 4 p xs.length = true then L.wordOf 8 ((xs.drop p).take 4) else 0
def dictR (kd wd k p : Nat) (xs : List Nat) : Bool × List PV :=
  if numOk 4 p xs.length = false ∨ 256 < dN p xs ∨ wd ≠ needN (dN p xs) then (false, [])
  else if listOk kd (dN p xs) (p + 4) xs = false ∨ noPair geP (listP kd (dN p xs) (p + 4) xs) = false then (false, [])
  else if ((lanesV wd k (listNx kd (dN p xs) (p + 4) xs) xs).all fun c => decide (c < dN p xs)) = false then (false, [])
  else (lanesOk wd k (listNx kd (dN p xs) (p + 4) xs) xs, (lanesV wd k (listNx kd (dN p xs) (p + 4) xs) xs).map fun c => (listP kd (dN p xs) (p + 4) xs).getD c dfP)
theorem listP_len (kd m p : Nat) (xs : List Nat) (h : listOk kd m p xs = true) (hkd : kd = 1 ∨ kd = 2) : (listP kd m p xs).length = m := by
  rcases hkd with rfl | rfl
  · unfold listOk at h; rw [if_pos rfl] at h
    unfold numsOk at h; simp only [decide_eq_true_eq] at h
    unfold listP; rw [if_pos rfl, List.length_map, List.length_map, numL_length]
    unfold tk; rw [if_pos (by rw [List.length_drop]; exact h.2), List.length_take, List.length_drop, Nat.min_eq_left (by omega)]
    omega
  · unfold listOk at h; rw [if_neg (by decide)] at h
    unfold listP; rw [if_neg (by decide), List.length_map]
    have h2 := h
    unfold strsOk at h2; simp only [Bool.and_eq_true] at h2
    unfold numsOk at h2; simp only [decide_eq_true_eq] at h2
    unfold strsV; rw [if_pos h, cutS_length, nI_length, numL_length]
    unfold tk; rw [if_pos (by rw [List.length_drop]; exact h2.1.2), List.length_take, List.length_drop, Nat.min_eq_left (by omega)]
    omega
theorem Rd.atW {w : World} {D : Option Addr} {n m cd : Nat} {xs : List Nat} (h : Rd w (.slice D n cd) m 1 (u64s xs)) (h0 : 0 < m) : ∃ b o, D = some ⟨b, o, none⟩ ∧
    ∀ k, k < xs.length → w.cell? ⟨b, o + k, none⟩ = some (.int .u64 ((xs.getD k 0 : Nat) : Int)) := by
  rcases h.2 with ⟨_, rfl⟩ | ⟨b, o, cap', he, _, _, hs⟩
  · exact absurd h0 (Nat.lt_irrefl 0)
  · injection he with e1 e2 e3
    exact ⟨b, o, e1, fun k hk => hs.word k hk⟩
end Go.Proofs.YthonbfojpbfmgaaGreatDoor

/- The plain answer: runs. -/
set_option linter.unusedVariables false
set_option linter.unusedSimpArgs false
set_option linter.unnecessarySimpa false
set_option maxRecDepth 100000
namespace Go.Proofs.YthonbfojpbfmgaaGreatDoor
open Go.RowKit

/-- what the first i runs stand for -/
def fillP (heads : List PV) (ends : List Nat) : Nat → List PV
  | 0 => []
  | i + 1 => fillP heads ends i ++ List.replicate (ends.getD i 0 - (fillP heads ends i).length) (heads.getD i dfP)
theorem endsUp_app (es fs : List Int) : ∀ (l m : Int), endsUp l es = some m → endsUp l (es ++ fs) = endsUp m fs := by
  induction es with
  | nil => intro l m h; simp [endsUp] at h; subst h; rfl
  | cons a r ih =>
    intro l m h
    simp only [List.cons_append, endsUp] at h ⊢
    split at h
    · cases h
    · rename_i hc; rw [if_neg hc]; exact ih a m h
theorem endsUp_ge (es : List Int) : ∀ (l m : Int), endsUp l es = some m → l ≤ m := by
  induction es with
  | nil => intro l m h; simp [endsUp] at h; omega
  | cons a r ih =>
    intro l m h
    simp only [endsUp] at h
    split at h
    · cases h
    · have := ih a m h; omega
theorem nI_getD (xs : List Nat) (i : Nat) (h : i < xs.length) : (nI xs).getD i 0 = ((xs.getD i 0 : Nat) : Int) := by
  simp [nI, List.getD, List.getElem?_eq_getElem h]
theorem endsUp_step (ends : List Nat) (i l : Nat) (hi : i < ends.length) (h : endsUp 0 (nI (ends.take i)) = some (l : Int)) :
    endsUp 0 (nI (ends.take (i + 1))) = if ends.getD i 0 ≤ l then none else some ((ends.getD i 0 : Nat) : Int) := by
  have e : ends.take (i + 1) = ends.take i ++ [ends.getD i 0] := by
    rw [List.take_succ_eq_append_getElem hi]; simp [List.getD, List.getElem?_eq_getElem hi]
  rw [e, nI_append, show nI [ends.getD i 0] = [((ends.getD i 0 : Nat) : Int)] from rfl, endsUp_snoc, h]
  simp only [Option.bind_some]
  by_cases hc : ends.getD i 0 ≤ l
  · rw [if_pos hc, if_pos (by omega)]
  · rw [if_neg hc, if_neg (by omega)]
theorem fillP_len (heads : List PV) (ends : List Nat) : ∀ (i l : Nat), i ≤ ends.length → endsUp 0 (nI (ends.take i)) = some (l : Int) → (fillP heads ends i).length = l
  | 0, l, _, h => by simp [nI, endsUp] at h; simp [fillP]; omega
  | i + 1, l, hi, h => by
    cases h0 : endsUp 0 (nI (ends.take i)) with
    | none =>
      have e : ends.take (i + 1) = ends.take i ++ [ends.getD i 0] := by
        rw [List.take_succ_eq_append_getElem (by omega)]; simp [List.getD, List.getElem?_eq_getElem (show i < ends.length by omega)]
      rw [e, nI_append, endsUp_none _ _ _ h0] at h
      cases h
    | some m =>
      have hm := endsUp_ge _ _ _ h0
      obtain ⟨m, rfl⟩ := Int.eq_ofNat_of_zero_le hm
      have ih := fillP_len heads ends i m (by omega) h0
      rw [endsUp_step ends i m (by omega) h0] at h
      split at h
      · cases h
      · injection h with h
        simp only [fillP, List.length_append, List.length_replicate, ih]
        omega
def runsR (kd k p : Nat) (xs : List Nat) : Bool × List PV :=
  if numOk 4 p xs.length = false ∨ k < dN p xs then (false, [])
  else if numsOk 4 (dN p xs) (p + 4) xs.length = false then (false, [])
  else if listOk kd (dN p xs) (p + 4 + 4 * dN p xs) xs = false ∨ ¬ listNx kd (dN p xs) (p + 4 + 4 * dN p xs) xs = xs.length then (false, [])
  else if noPair eqP (listP kd (dN p xs) (p + 4 + 4 * dN p xs) xs) = false ∨ runEnds (nI (numL 4 (tk (4 * dN p xs) (xs.drop (p + 4))))) k = false then (false, [])
  else (true, fillP (listP kd (dN p xs) (p + 4 + 4 * dN p xs) xs) (numL 4 (tk (4 * dN p xs) (xs.drop (p + 4)))) (dN p xs))
end Go.Proofs.YthonbfojpbfmgaaGreatDoor

/- The plain answer: runs, the walk. -/
set_option linter.unusedVariables false
set_option linter.unusedSimpArgs false
set_option linter.unnecessarySimpa false
set_option maxRecDepth 100000
namespace Go.Proofs.YthonbfojpbfmgaaGreatDoor
open Go.RowKit

theorem ends_len (m p : Nat) (xs : List Nat) (h : numsOk 4 m p xs.length = true) : (numL 4 (tk (4 * m) (xs.drop p))).length = m := by
  unfold numsOk at h; simp only [decide_eq_true_eq] at h
  rw [numL_length]; unfold tk; rw [if_pos (by rw [List.length_drop]; exact h.2), List.length_take, List.length_drop, Nat.min_eq_left (by omega)]
  omega
end Go.Proofs.YthonbfojpbfmgaaGreatDoor

/- The plain answer: whole payloads. -/
set_option linter.unusedVariables false
set_option linter.unusedSimpArgs false
set_option linter.unnecessarySimpa false
set_option maxRecDepth 100000
namespace Go.Proofs.YthonbfojpbfmgaaGreatDoor
open Go.RowKit

def payR (kd cd wd k p : Nat) (xs : List Nat) : Bool × List PV :=
  if cd = 2 then dictR kd wd k p xs
  else if cd = 3 then ((runsR kd k p xs).1 && decide (wd = 0), (runsR kd k p xs).2)
  else if cd = 4 then (if numOk 8 p xs.length = false ∨ 64 < wd ∨ ¬ kd = 1 then (false, []) else
    (fits (sgn64 (L.wordOf 8 ((xs.drop p).take 8))) (lanesV wd k (p + 8) xs) && lanesOk wd k (p + 8) xs, (sumsL (sgn64 (L.wordOf 8 ((xs.drop p).take 8))) (lanesV wd k (p + 8) xs)).map pI))
  else if cd = 5 then (if 64 < wd ∨ ¬ kd = 1 then (false, []) else (fits 0 (lanesV wd k p xs) && lanesOk wd k p xs, (sumsL 0 (lanesV wd k p xs)).map pI))
  else (listOk kd k p xs && decide (listNx kd k p xs = xs.length) && decide (cd = 1) && decide (wd = 0), listP kd k p xs)
end Go.Proofs.YthonbfojpbfmgaaGreatDoor

/- Package chunk: a value of a chunk, by its codec. -/
set_option linter.unusedVariables false
set_option linter.unusedSimpArgs false
set_option linter.unnecessarySimpa false
set_option maxRecDepth 100000
namespace Go.Proofs.YthonbfojpbfmgaaGreatDoor
open Go.RowKit

/-- a chunk in memory that was looked through, with its lists -/
structure Ck_I (w : World) (g : Nat) (rows : Int) (codec wd : Nat) (nulls : List Nat) (count : Int) (list : List Int) (ends : List Nat) (base : Int) (lanes : List Nat) : Prop where
  ex : ∃ nu lv ev nv bef, Row w g 111 (ck_I rows codec wd nu count lv ev base nv (.iface 68 (.agg #[])) bef) ∧ Rd w nu nulls.length 1 (u64s nulls) ∧ Rd w lv list.length 1 (lstI list) ∧
    Rd w ev ends.length 1 (nIs ends) ∧ Rd w nv lanes.length 1 (u64s lanes) ∧ Rd w bef nulls.length 1 (i64s (befL nulls))
theorem Ck_I.mono {w w' : World} {g : Nat} {rows : Int} {codec wd : Nat} {nulls : List Nat} {count : Int} {list : List Int} {ends : List Nat} {base : Int} {lanes : List Nat} (h : Ck_I w g rows codec wd nulls count list ends base lanes) (hb : Below w.heap.size w w') :
    Ck_I w' g rows codec wd nulls count list ends base lanes := by
  obtain ⟨nu, lv, ev, nv, bef, h1, h2, h3, h4, h5, h6⟩ := h.ex
  exact ⟨nu, lv, ev, nv, bef, h1.mono hb, h2.mono hb, h3.mono hb, h4.mono hb, h5.mono hb, h6.mono hb⟩

/-- value number j -/
def val_I (codec wd : Nat) (list : List Int) (ends : List Nat) (lanes : List Nat) (j : Nat) : Int :=
  if codec = 1 then list.getD j dfI else if codec = 2 then list.getD (L.laneOf wd lanes j) dfI else list.getD (firstGe (nI ends) ((j : Int) + 1)) dfI
/-- where it can be asked -/
def ok_I (codec wd : Nat) (list : List Int) (ends : List Nat) (lanes : List Nat) (j : Nat) : Prop :=
  (codec = 1 ∧ j < list.length) ∨ (codec = 2 ∧ L.laneOf wd lanes j < list.length ∧ wd ≤ 64 ∧ (0 < wd → j / (64 / wd) < lanes.length)) ∨
    (codec = 3 ∧ firstGe (nI ends) ((j : Int) + 1) < list.length ∧ ∀ a b, a < b → b < (nI ends).length → (nI ends).getD a 0 < (nI ends).getD b 0)

set_option maxHeartbeats 2000000 in
theorem run_I (w : World) (g : Nat) (rows : Int) (codec wd : Nat) (nulls : List Nat) (count : Int) (list : List Int) (ends : List Nat) (base : Int) (lanes : List Nat) (j : Nat)
    (h : Ck_I w g rows codec wd nulls count list ends base lanes) (hel : ends.length ≤ 16777216) (hj : j ≤ 65536) (hup : ∀ a b, a < b → b < (nI ends).length → (nI ends).getD a 0 < (nI ends).getD b 0) :
    Calls Tryz.prog 172 #[.pointer (some ⟨g, 0, none⟩), .int .i64 j] w fun e w' => e = .returned (.int .i64 (firstGe (nI ends) ((j : Int) + 1) : Nat)) ∧ ∃ n, w' = w.drewN n := by
  obtain ⟨nu, lv, ev, nv, bef, h1, h2, h3, h4, h5, h6⟩ := h.ex
  have HB := hid (BinarySearch_any ev (nI ends) ((j : Int) + 1) w (by rw [nI_length]; exact h4) (by rw [nI_length]; exact hel) hup)
  obtain ⟨A, c, rfl, _, _, _⟩ := h4.form
  have c6 : w.cell? ⟨g, 0 + 6, none⟩ = some (.slice A ends.length c) := by rw [h1.cell]; rfl
  clear h1 h2 h3 h4 h5 h6 h hup
  generalize firstGe (nI ends) ((j : Int) + 1) = r at *
  go_enter Tryz.func172, Tryz.ntmps172
  go_wp2_with fail
  refine HB.out.mono ?_
  rintro e w1 ⟨⟨b, rfl⟩, n, rfl⟩
  go_wp2_with fail
  go_ret
  exact ⟨rfl, n, rfl⟩

set_option maxHeartbeats 4000000 in
theorem Value123_I (w : World) (g : Nat) (rows : Int) (codec wd : Nat) (nulls : List Nat) (count : Int) (list : List Int) (ends : List Nat) (base : Int) (lanes : List Nat) (j : Nat)
    (h : Ck_I w g rows codec wd nulls count list ends base lanes) (hel : ends.length ≤ 16777216) (hll : list.length ≤ 16777216) (hnv : ∀ x ∈ lanes, x < 18446744073709551616) (hj : j ≤ 65536) (hok : ok_I codec wd list ends lanes j) :
    Calls Tryz.prog 130 #[.pointer (some ⟨g, 0, none⟩), .int .i64 j] w fun e w' => e = .returned (vI (val_I codec wd list ends lanes j)) ∧ Below w.heap.size w w' := by
  obtain ⟨nu, lv, ev, nv, bef, h1, h2, h3, h4, h5, h6⟩ := h.ex
  obtain ⟨A, c, rfl, hlc, hcm, hA⟩ := h3.form
  have c1 : w.cell? ⟨g, 0 + 1, none⟩ = some (.int .i64 codec) := by rw [h1.cell]; rfl
  have c5 : w.cell? ⟨g, 0 + 5, none⟩ = some (.slice A list.length c) := by rw [h1.cell]; rfl
  have c5' : w.cell? ⟨g, 5, none⟩ = some (.slice A list.length c) := by rw [h1.cell]; rfl
  rcases hok with ⟨rfl, hlt⟩ | ⟨rfl, hlt, hw, hin⟩ | ⟨rfl, hlt, hup⟩
  · obtain ⟨b, o, rfl, hs⟩ := hA (by omega)
    have d1 : w.cell? ⟨b, o + j, none⟩ = some (vI (list.getD j dfI)) := hs _ _ (lstI_get list j hlt)
    have hv : val_I 1 wd list ends lanes j = list.getD j dfI := by unfold val_I; rw [if_pos rfl]
    rw [hv]
    unfold vI at d1 ⊢
    clear h1 h2 h3 h4 h5 h6 h hs hA c5' hv
    generalize list.getD j dfI = x at *
    go_enter Tryz.func130, Tryz.ntmps130
    go_wp2
    go_ret
    exact ⟨rfl, brefl w⟩
  · have hv : val_I 2 wd list ends lanes j = list.getD (L.laneOf wd lanes j) dfI := by unfold val_I; rw [if_neg (by omega), if_pos rfl]
    rw [hv]
    have HLN := hid (fun n : Nat => lane_I (w.drewN n) g rows (2 : Nat) wd nu count (.slice A list.length c) ev base nv _ bef lanes j (h1.drewN n) (h5.mono (bdrew (brefl w) n)) hnv hw hj hin)
    generalize L.laneOf wd lanes j = r at *
    obtain ⟨b, o, rfl, hs⟩ := hA (Nat.lt_of_le_of_lt (Nat.zero_le _) hlt)
    have d1 : w.cell? ⟨b, o + r, none⟩ = some (vI (list.getD r dfI)) := hs _ _ (lstI_get list r hlt)
    unfold vI at d1 ⊢
    have hri : (r : Int) < (list.length : Int) := by omega
    clear h1 h2 h3 h4 h5 h6 h hs hA hv hin c5
    generalize list.getD r dfI = x at *
    go_enter Tryz.func130, Tryz.ntmps130
    go_wp2_with fail
    go_quiet (first | (go_at_call 169; refine Calls.quiet_of (HLN.out _)))
    go_wp2_with fail
    go_ret
    exact ⟨rfl, bdrew (brefl w) _⟩
  · have hv : val_I 3 wd list ends lanes j = list.getD (firstGe (nI ends) ((j : Int) + 1)) dfI := by unfold val_I; rw [if_neg (by omega), if_neg (by omega)]
    rw [hv]
    have HRN := hid (fun n : Nat => run_I (w.drewN n) g rows 3 wd nulls count list ends base lanes j (h.mono (bdrew (brefl w) n)) hel hj hup)
    generalize firstGe (nI ends) ((j : Int) + 1) = r at *
    obtain ⟨b, o, rfl, hs⟩ := hA (Nat.lt_of_le_of_lt (Nat.zero_le _) hlt)
    have d1 : w.cell? ⟨b, o + r, none⟩ = some (vI (list.getD r dfI)) := hs _ _ (lstI_get list r hlt)
    unfold vI at d1 ⊢
    have hri : (r : Int) < (list.length : Int) := by omega
    clear h1 h2 h3 h4 h5 h6 h hs hA hv hup c5
    generalize list.getD r dfI = x at *
    go_enter Tryz.func130, Tryz.ntmps130
    go_wp2_with fail
    go_quiet (first | (go_at_call 172; refine Calls.quiet_of (HRN.out _)))
    go_wp2_with fail
    go_ret
    exact ⟨rfl, bdrew (brefl w) _⟩
end Go.Proofs.YthonbfojpbfmgaaGreatDoor
