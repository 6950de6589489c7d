/- LawKernel: what the law asks by < alone. -/
import Derived.Test.YthonbfojpbfmgaaGreatDoorLawkerneluptoB21
import Derived.Deep.CutRange
import Derived.Test.YthonbfojpbfmgaaGreatDoorLawkerneluptoB22
import Derived.Test.YthonbfojpbfmgaaGreatDoorLawkerneluptoB16
import Derived.Test.YthonbfojpbfmgaaGreatDoorLawkerneluptoB18
import Derived.Test.YthonbfojpbfmgaaGreatDoorLawkerneluptoB19
import Derived.Test.YthonbfojpbfmgaaGreatDoorLawkerneluptoB20
set_option linter.unusedVariables false
set_option linter.unusedSimpArgs false
set_option linter.unnecessarySimpa false
set_option maxRecDepth 100000
namespace Go.Proofs.YthonbfojpbfmgaaGreatDoor
open Go.RowKit

theorem rows2k {u : World} {X Y : Array Value} {eX eY : TypeId} : Row ((u.alloc (.cells X eX)).alloc (.cells Y eY)) u.heap.size eX X.toList ∧ Row ((u.alloc (.cells X eX)).alloc (.cells Y eY)) (u.heap.size + 1) eY Y.toList ∧ Below u.heap.size u ((u.alloc (.cells X eX)).alloc (.cells Y eY)) := by
  have e : u.heap.size + 1 = (u.alloc (.cells X eX)).heap.size := by simp
  refine ⟨?_, ?_, ((Below.refl u.heap.size u).alloc (Nat.le_refl _) _).alloc (by simp) _⟩
  · have h1 : Row (u.alloc (.cells X eX)) u.heap.size eX X.toList := by unfold Row; rw [heap_alloc_new]
    exact h1.mono ((Below.refl _ _).alloc (Nat.le_refl _) _)
  · rw [e]; unfold Row; rw [heap_alloc_new]
theorem rows3f {u : World} {X Y Z : Array Value} {e : TypeId} : Row (((u.alloc (.cells X e)).alloc (.cells Y e)).alloc (.cells Z e)) u.heap.size e X.toList ∧ Row (((u.alloc (.cells X e)).alloc (.cells Y e)).alloc (.cells Z e)) (u.heap.size + 1) e Y.toList ∧ Row (((u.alloc (.cells X e)).alloc (.cells Y e)).alloc (.cells Z e)) (u.heap.size + 1 + 1) e Z.toList ∧ Below u.heap.size u (((u.alloc (.cells X e)).alloc (.cells Y e)).alloc (.cells Z e)) := by
  obtain ⟨h1, h2, h3⟩ := rows2k (u := u) (X := X) (Y := Y) (eX := e) (eY := e)
  have e1 : u.heap.size + 1 + 1 = ((u.alloc (.cells X e)).alloc (.cells Y e)).heap.size := by simp
  refine ⟨h1.mono ((Below.refl _ _).alloc (Nat.le_refl _) _), h2.mono ((Below.refl _ _).alloc (Nat.le_refl _) _), ?_, h3.alloc h3.size _⟩
  rw [e1]; unfold Row; rw [heap_alloc_new]
set_option maxHeartbeats 8000000 in
theorem holds_any (op : Int) (v a b : C3) (w : World) (ho : 1 ≤ op ∧ op ≤ 8) : Calls Tryz.prog 48 #[.int .i64 op, v.v, a.v, b.v] w fun e w' => e = .returned (.bool (hldB op v a b)) ∧ Below w.heap.size w w' := by
  obtain ⟨R, hR⟩ : ∃ R, hldB op v a b = R := ⟨_, rfl⟩
  rw [hR]
  unfold hldB at hR
  obtain ⟨l1, hl1⟩ : ∃ l1, ltC v a = l1 := ⟨_, rfl⟩
  obtain ⟨g1, hg1⟩ : ∃ g1, ltC a v = g1 := ⟨_, rfl⟩
  obtain ⟨g2, hg2⟩ : ∃ g2, ltC b v = g2 := ⟨_, rfl⟩
  obtain ⟨l2, hl2⟩ : ∃ l2, ltC v b = l2 := ⟨_, rfl⟩
  rw [hl1, hg1, hg2, hl2] at hR
  obtain ⟨vn, vi, vs⟩ := v
  obtain ⟨an, ai, az⟩ := a
  obtain ⟨bn, bi, bs⟩ := b
  unfold ltC at hl1 hg1 hg2 hl2
  unfold C3.v
  simp only at hl1 hg1 hg2 hl2 ⊢
  obtain ⟨y1, hy1⟩ : ∃ y, Op.bytesLess vs.toList az.toList = y := ⟨_, rfl⟩
  obtain ⟨y2, hy2⟩ : ∃ y, Op.bytesLess az.toList vs.toList = y := ⟨_, rfl⟩
  obtain ⟨y3, hy3⟩ : ∃ y, Op.bytesLess bs.toList vs.toList = y := ⟨_, rfl⟩
  obtain ⟨y4, hy4⟩ : ∃ y, Op.bytesLess vs.toList bs.toList = y := ⟨_, rfl⟩
  rw [hy1] at hl1
  rw [hy2] at hg1
  rw [hy3] at hg2
  rw [hy4] at hl2
  have HR := hid hR; have HL1 := hid hl1; have HG1 := hid hg1; have HG2 := hid hg2; have HL2 := hid hl2
  clear hR hl1 hg1 hg2 hl2
  obtain ⟨q1, q2, q3, q4⟩ := rows3f (u := w) (X := #[.bool vn, .int .i64 vi, .string vs]) (Y := #[.bool an, .int .i64 ai, .string az]) (Z := #[.bool bn, .int .i64 bi, .string bs]) (e := 42)
  have HRV := hid q1; have HRA := hid q2; have HRB := hid q3; have HB := hid q4
  clear q1 q2 q3 q4
  go_enter Tryz.func48, Tryz.ntmps48
  go_upto_region 1 with fail
  generalize ((w.alloc (.cells #[.bool vn, .int .i64 vi, .string vs] 42)).alloc (.cells #[.bool an, .int .i64 ai, .string az] 42)).alloc (.cells #[.bool bn, .int .i64 bi, .string bs] 42) = w0 at *
  obtain ⟨v0, v1, v2⟩ := cell3 HRV.out
  obtain ⟨a0, a1, a2⟩ := cell3 HRA.out
  obtain ⟨b0, b1, b2⟩ := cell3 HRB.out
  go_cut [9] from 13 to 24 (fun s9 wc => s9 = .bool l1 ∧ wc = w0)
  case first =>
    by_cases h : vi < ai
    · obtain rfl : l1 = true := by rw [← HL1.out]; simp [h]
      go_wp2_with fail
      go_meet
      exact ⟨rfl, rfl⟩
    · obtain rfl : l1 = y1 := by rw [← HL1.out]; simp [h]
      go_wp2_with fail
      go_meet
      exact ⟨rfl, rfl⟩
  case rest =>
    obtain ⟨rfl, hw⟩ := hcut; replace hw := hw.symm; subst hw
    go_upto_region 2 with fail
    go_cut [10] from 25 to 36 (fun s10 wc2 => s10 = .bool g1 ∧ wc2 = w0)
    case first =>
      by_cases h : ai < vi
      · obtain rfl : g1 = true := by rw [← HG1.out]; simp [h]
        go_wp2_with fail
        go_meet
        exact ⟨rfl, rfl⟩
      · obtain rfl : g1 = y2 := by rw [← HG1.out]; simp [h]
        go_wp2_with fail
        go_meet
        exact ⟨rfl, rfl⟩
    case rest =>
      obtain ⟨rfl, hw⟩ := hcut; replace hw := hw.symm; subst hw
      go_upto_region 3 with fail
      go_cut [11] from 37 to 48 (fun s11 wc3 => s11 = .bool g2 ∧ wc3 = w0)
      case first =>
        by_cases h : bi < vi
        · obtain rfl : g2 = true := by rw [← HG2.out]; simp [h]
          go_wp2_with fail
          go_meet
          exact ⟨rfl, rfl⟩
        · obtain rfl : g2 = y3 := by rw [← HG2.out]; simp [h]
          go_wp2_with fail
          go_meet
          exact ⟨rfl, rfl⟩
      case rest =>
        obtain ⟨rfl, hw⟩ := hcut; replace hw := hw.symm; subst hw
        go_upto_region 4 with fail
        go_cut [12] from 49 to 60 (fun s12 wc4 => s12 = .bool l2 ∧ wc4 = w0)
        case first =>
          by_cases h : vi < bi
          · obtain rfl : l2 = true := by rw [← HL2.out]; simp [h]
            go_wp2_with fail
            go_meet
            exact ⟨rfl, rfl⟩
          · obtain rfl : l2 = y4 := by rw [← HL2.out]; simp [h]
            go_wp2_with fail
            go_meet
            exact ⟨rfl, rfl⟩
        case rest =>
          obtain ⟨rfl, hw⟩ := hcut; replace hw := hw.symm; subst hw
          clear v0 v1 v2 a0 a1 a2 b0 b1 b2 HL1 HG1 HG2 HL2 HRV HRA HRB hy1 hy2 hy3 hy4
          have hoo : op = 1 ∨ op = 2 ∨ op = 3 ∨ op = 4 ∨ op = 5 ∨ op = 6 ∨ op = 7 ∨ op = 8 := by omega
          rcases hoo with rfl | rfl | rfl | rfl | rfl | rfl | rfl | rfl
          · cases l1 <;> cases g1 <;> (go_wp2_with fail; go_ret; exact ⟨by rw [← HR.out]; rfl, HB.out⟩)
          · cases l1 <;> cases g1 <;> (go_wp2_with fail; go_ret; exact ⟨by rw [← HR.out]; rfl, HB.out⟩)
          · cases l1 <;> (go_wp2_with fail; go_ret; exact ⟨by rw [← HR.out]; rfl, HB.out⟩)
          · cases g1 <;> (go_wp2_with fail; go_ret; exact ⟨by rw [← HR.out]; rfl, HB.out⟩)
          · cases g1 <;> (go_wp2_with fail; go_ret; exact ⟨by rw [← HR.out]; rfl, HB.out⟩)
          · cases l1 <;> (go_wp2_with fail; go_ret; exact ⟨by rw [← HR.out]; rfl, HB.out⟩)
          · cases l1 <;> cases g1 <;> cases g2 <;> cases l2 <;> (go_wp2_with fail; go_ret; exact ⟨by rw [← HR.out]; rfl, HB.out⟩)
          · cases l1 <;> cases g2 <;> (go_wp2_with fail; go_ret; exact ⟨by rw [← HR.out]; rfl, HB.out⟩)
end Go.Proofs.YthonbfojpbfmgaaGreatDoor

/- Package codec: the payloads of frames and of packed lanes. -/
set_option linter.unusedVariables false
set_option linter.unusedSimpArgs false
set_option linter.unnecessarySimpa false
set_option maxRecDepth 100000
namespace Go.Proofs.YthonbfojpbfmgaaGreatDoor
open Go.RowKit

theorem ordP_pI_lt (x y : Int) : ordP (pI x) (pI y) < 0 ↔ x < y := by
  constructor
  · intro h
    unfold ordP pI at h
    by_cases h1 : x < y
    · exact h1
    · rw [if_neg h1] at h
      by_cases h2 : y < x
      · rw [if_pos h2] at h; omega
      · rw [if_neg h2, ordS_refl0] at h; omega
  · intro h; exact ordP_neg ((gtP_pI x y).2 h)
theorem minP_I (xs : List Int) : minP (xs.map pI) = pI (Lib.minOf xs) := by
  cases xs with
  | nil => rfl
  | cons a r =>
    unfold Lib.minOf
    rw [List.map_cons, List.headD_cons, List.foldl_cons]
    show (r.map pI).foldl _ (pI a) = _
    rw [show min a a = a by omega]
    generalize a = m
    induction r generalizing m with
    | nil => rfl
    | cons b r ih =>
      rw [List.map_cons, List.foldl_cons, List.foldl_cons]
      by_cases h : b < m
      · rw [if_pos ((ordP_pI_lt b m).2 h), ih b, show min m b = b by omega]
      · rw [if_neg (fun h2 => h ((ordP_pI_lt b m).1 h2)), ih m, show min m b = m by omega]
theorem Min_any (xs : List Int) (u : Value) (w : World) (hu : Rd w u xs.length 1 (i64s xs)) (h0 : 0 < xs.length) (hl : xs.length ≤ 1048576) :
    Calls Tryz.prog 224 #[u] w fun e w' => e = .returned (.int .i64 (minP (xs.map pI)).1) ∧ w' = w := by
  obtain ⟨A1, c1, rfl, _, _, _⟩ := hu.form
  obtain ⟨b, o, rfl, hs⟩ := hu.atI h0
  have h := Tryz.slices_Min_int b o xs.length c1 xs w h0 (Nat.le_refl _) (by omega) hs
  rw [List.take_length] at h
  rw [minP_I]
  exact h
set_option maxHeartbeats 4000000 in
theorem framePayload_any (wd : Int) (xs : List Int) (u : Value) (w : World) (hu : Rd w u xs.length 1 (i64s xs)) (hl : xs.length ≤ 1048576) :
    Calls Tryz.prog 176 #[u, .int .i64 wd] w fun e w' => ∃ r, e = .returned (.tuple #[r, .bool (frameOk wd (xs.map pI))]) ∧ (∃ A n c, r = .slice A n c) ∧
      (frameOk wd (xs.map pI) = true → OwnB w.heap.size w' r (frameB wd (xs.map pI))) ∧ Below w.heap.size w w' := by
  have HMN := hid (fun (h0 : 0 < xs.length) => Min_any xs u w hu h0 hl)
  have HM0 := hid (fun (h0 : xs.length = 0) => (show (minP (xs.map pI)).1 = 0 by rw [List.eq_nil_of_length_eq_zero h0]; rfl))
  have HPF := hid (packFrom_any (minP (xs.map pI)).1 wd xs u w hu hl)
  obtain ⟨A1, c1, rfl, _, _, _⟩ := hu.form
  unfold frameOk frameB
  obtain ⟨bi, hbi⟩ : ∃ bi, (minP (xs.map pI)).1 = bi := ⟨_, rfl⟩
  rw [hbi] at HMN HM0 HPF ⊢
  have HWL := hid (packR_lt64 wd (lanesF (toU bi) (xs.map pI)))
  have HWN := hid (packR_le wd (lanesF (toU bi) (xs.map pI)) (by unfold lanesF; rw [List.length_map, List.length_map]; exact hl))
  generalize packR wd (lanesF (toU bi) (xs.map pI)) = ws at *
  generalize okVals wd (lanesF (toU bi) (xs.map pI)) = ok at *
  have hbu := wrap_toU bi
  have hbl := toU_lt bi
  generalize toU bi = bu at *
  generalize xs.length = n at *
  clear hu hbi
  have HNU := hid (fun (w2 : World) => AppendU64_any w2.heap.size (.slice none 0 0) [] bu w2 (OwnB.nil _ _) (Nat.le_refl _) hbl (by simp))
  simp only [List.nil_append] at HNU
  have HHH : Hid ((leN 8 bu).length = 8) := hid (leN_length 8 bu)
  generalize leN 8 bu = hd at *
  have HPA := hid (fun (B : Nat) (A3 : Option Addr) (c3 : Nat) (A4 : Option Addr) (c4 : Nat) (w0 w3 : World) (h1 : OwnB w0.heap.size w3 (.slice A3 hd.length c3) hd) (h2 : Below w0.heap.size w0 w3) (h3 : Rd w0 (.slice A4 ws.length c4) ws.length 1 (u64s ws)) => AppendU64s_any w0.heap.size (.slice A3 hd.length c3) (.slice A4 ws.length c4) hd ws w3 h1 (Stay.low h3 h2 (Nat.le_refl _)) HWL.out h2.size (by rw [HHH.out]; omega) HWN.out)
  generalize hd ++ le8 ws = R at *
  go_enter Tryz.func176, Tryz.ntmps176
  by_cases h0 : 0 < n
  · have HM := hid (HMN.out h0)
    clear HMN HM0
    have hg : (n : Int) > 0 := by omega
    cases ok
    · go_wp2_with (first
        | (go_at_call 224; refine HM.out.mono ?_; rintro e w3 ⟨rfl, hw⟩; replace hw := hw.symm; subst hw)
        | (go_at_call 225; refine HPF.out.mono ?_; rintro e w4 ⟨r, rfl, h1, h2⟩; obtain ⟨A4, c4, rfl, _⟩ := owns_form h1; have H1 := hid (owns_rd h1); have H2 := hid h2; clear h1 h2))
      go_ret2
      exact ⟨_, rfl, ⟨_, _, _, rfl⟩, fun h => (by cases h), H2.out⟩
    · go_wp2_with (first
        | (go_at_call 224; refine HM.out.mono ?_; rintro e w3 ⟨rfl, hw⟩; replace hw := hw.symm; subst hw)
        | (go_at_call 225; refine HPF.out.mono ?_; rintro e w4 ⟨r, rfl, h1, h2⟩; obtain ⟨A4, c4, rfl, _⟩ := owns_form h1; have H1 := hid (owns_rd h1); have H2 := hid h2; clear h1 h2)
        | (go_at_call 179; refine (HNU.out w4).mono ?_; rintro e w5 ⟨r, rfl, h1, h2, h3, h4⟩; obtain ⟨A5, c5, rfl⟩ := h1.form; have K1 := hid h1; have K2 := hid h2; clear h1 h2 h3 h4)
        | (go_at_call 134; refine (HPA.out 0 _ _ _ _ w4 w5 K1.out K2.out H1.out).mono ?_; rintro e w6 ⟨r, rfl, h1, h2, h3, h4⟩; obtain ⟨A6, c6, rfl⟩ := h1.form; have L1 := hid h1; have L2 := hid h2; clear h1 h2 h3 h4))
      go_ret2
      have G := hid (show OwnB w.heap.size w6 (.slice A6 R.length c6) R from owns_low L1.out H2.out.size)
      exact ⟨_, rfl, ⟨_, _, _, rfl⟩, G.out, H2.out.trans ((K2.out.trans L2.out).mono H2.out.size)⟩
  · have hb0 := HM0.out (by omega)
    obtain rfl : n = 0 := by omega
    subst hb0
    clear HMN HM0 h0
    cases ok
    · go_wp2_with (first
        | (go_at_call 225; refine HPF.out.mono ?_; rintro e w4 ⟨r, rfl, h1, h2⟩; obtain ⟨A4, c4, rfl, _⟩ := owns_form h1; have H1 := hid (owns_rd h1); have H2 := hid h2; clear h1 h2))
      go_ret2
      exact ⟨_, rfl, ⟨_, _, _, rfl⟩, fun h => (by cases h), H2.out⟩
    · go_wp2_with (first
        | (go_at_call 225; refine HPF.out.mono ?_; rintro e w4 ⟨r, rfl, h1, h2⟩; obtain ⟨A4, c4, rfl, _⟩ := owns_form h1; have H1 := hid (owns_rd h1); have H2 := hid h2; clear h1 h2)
        | (go_at_call 179; refine (HNU.out w4).mono ?_; rintro e w5 ⟨r, rfl, h1, h2, h3, h4⟩; obtain ⟨A5, c5, rfl⟩ := h1.form; have K1 := hid h1; have K2 := hid h2; clear h1 h2 h3 h4)
        | (go_at_call 134; refine (HPA.out 0 _ _ _ _ w4 w5 K1.out K2.out H1.out).mono ?_; rintro e w6 ⟨r, rfl, h1, h2, h3, h4⟩; obtain ⟨A6, c6, rfl⟩ := h1.form; have L1 := hid h1; have L2 := hid h2; clear h1 h2 h3 h4))
      go_ret2
      have G := hid (show OwnB w.heap.size w6 (.slice A6 R.length c6) R from owns_low L1.out H2.out.size)
      exact ⟨_, rfl, ⟨_, _, _, rfl⟩, G.out, H2.out.trans ((K2.out.trans L2.out).mono H2.out.size)⟩
end Go.Proofs.YthonbfojpbfmgaaGreatDoor

/- Package codec: the payload of packed lanes. -/
set_option linter.unusedVariables false
set_option linter.unusedSimpArgs false
set_option linter.unnecessarySimpa false
set_option maxRecDepth 100000
namespace Go.Proofs.YthonbfojpbfmgaaGreatDoor
open Go.RowKit

theorem foldl_min_neg (r : List Int) : ∀ m : Int, r.foldl min m < 0 ↔ m < 0 ∨ ∃ x ∈ r, x < 0 := by
  induction r with
  | nil => intro m; simp
  | cons a r ih =>
    intro m
    rw [List.foldl_cons, ih]
    constructor
    · rintro (h | ⟨x, hx, h⟩)
      · by_cases h1 : m < 0
        · exact .inl h1
        · exact .inr ⟨a, List.mem_cons_self, by omega⟩
      · exact .inr ⟨x, List.mem_cons_of_mem _ hx, h⟩
    · rintro (h | ⟨x, hx, h⟩)
      · exact .inl (by omega)
      · rcases List.mem_cons.1 hx with rfl | hx
        · exact .inl (by omega)
        · exact .inr ⟨x, hx, h⟩
theorem minP_neg (xs : List Int) : (xs.map pI).all (fun v => decide (0 ≤ v.1)) = !decide ((minP (xs.map pI)).1 < 0) := by
  rw [minP_I]
  show _ = !decide (Lib.minOf xs < 0)
  have h : Lib.minOf xs < 0 ↔ ∃ x ∈ xs, x < 0 := by
    unfold Lib.minOf
    cases xs with
    | nil => simp
    | cons a r =>
      rw [foldl_min_neg, List.headD_cons]
      simp
  by_cases hn : Lib.minOf xs < 0
  · rw [decide_eq_true hn]
    obtain ⟨x, hx, h1⟩ := h.1 hn
    rw [Bool.not_true, ← Bool.not_eq_true, List.all_eq_true]
    intro h2
    have := h2 (pI x) (List.mem_map.2 ⟨x, hx, rfl⟩)
    simp only [decide_eq_true_eq] at this
    have h3 : (pI x).1 = x := rfl
    omega
  · rw [decide_eq_false hn, Bool.not_false, List.all_eq_true]
    intro v hv
    obtain ⟨x, hx, rfl⟩ := List.mem_map.1 hv
    simp only [decide_eq_true_eq]
    have h3 : (pI x).1 = x := rfl
    by_cases h1 : x < 0
    · exact absurd (h.2 ⟨x, hx, h1⟩) hn
    · omega
theorem lanesF_zero (vs : List PV) : lanesF 0 vs = lanesK vs := by
  unfold lanesF lanesK
  apply List.map_congr_left
  intro v _
  have := toU_lt v.1
  generalize toU v.1 = y at *
  omega
set_option maxHeartbeats 4000000 in
theorem packedPayload_any (wd : Int) (xs : List Int) (u : Value) (w : World) (hu : Rd w u xs.length 1 (i64s xs)) (hl : xs.length ≤ 1048576) :
    Calls Tryz.prog 178 #[u, .int .i64 wd] w fun e w' => ∃ r, e = .returned (.tuple #[r, .bool (packedOk wd (xs.map pI))]) ∧ (∃ A n c, r = .slice A n c) ∧
      (packedOk wd (xs.map pI) = true → OwnB w.heap.size w' r (packedB wd (xs.map pI))) ∧ Below w.heap.size w w' := by
  have HMN := hid (fun (h0 : 0 < xs.length) => Min_any xs u w hu h0 hl)
  have HPF := hid (packFrom_any 0 wd xs u w hu hl)
  obtain ⟨A1, c1, rfl, _, _, _⟩ := hu.form
  rw [show toU 0 = 0 from rfl, lanesF_zero] at HPF
  unfold packedOk packedB
  rw [minP_neg]
  have HM0 := hid (fun (h0 : xs.length = 0) => (show (minP (xs.map pI)).1 = 0 by rw [List.eq_nil_of_length_eq_zero h0]; rfl))
  generalize (minP (xs.map pI)).1 = mi at *
  have HWL := hid (packR_lt64 wd (lanesK (xs.map pI)))
  have HWN := hid (packR_le wd (lanesK (xs.map pI)) (by unfold lanesK; rw [List.length_map, List.length_map]; exact hl))
  generalize packR wd (lanesK (xs.map pI)) = ws at *
  generalize okVals wd (lanesK (xs.map pI)) = ok at *
  generalize xs.length = n at *
  clear hu
  have HPA := hid (fun (A4 : Option Addr) (c4 : Nat) (w0 : World) (h3 : Rd w0 (.slice A4 ws.length c4) ws.length 1 (u64s ws)) => AppendU64s_any w0.heap.size (.slice none 0 0) (.slice A4 ws.length c4) [] ws w0 (OwnB.nil _ _) (Stay.low h3 (brefl _) (Nat.le_refl _)) HWL.out (Nat.le_refl _) (by simp) HWN.out)
  simp only [List.nil_append] at HPA
  generalize le8 ws = R at *
  go_enter Tryz.func178, Tryz.ntmps178
  by_cases h0 : 0 < n
  · have HM := hid (HMN.out h0)
    clear HMN HM0
    have hg : (n : Int) > 0 := by omega
    by_cases hm : mi < 0
    · rw [decide_eq_true hm]
      simp only [Bool.not_true, Bool.false_and]
      go_wp2_with (first
        | (go_at_call 224; refine HM.out.mono ?_; rintro e w3 ⟨rfl, hw⟩; replace hw := hw.symm; subst hw))
      go_ret2
      exact ⟨_, rfl, ⟨_, _, _, rfl⟩, fun h => (by cases h), brefl w⟩
    · rw [decide_eq_false hm]
      simp only [Bool.not_false, Bool.true_and]
      cases ok
      · go_wp2_with (first
          | (go_at_call 224; refine HM.out.mono ?_; rintro e w3 ⟨rfl, hw⟩; replace hw := hw.symm; subst hw)
          | (go_at_call 225; refine HPF.out.mono ?_; rintro e w4 ⟨r, rfl, h1, h2⟩; obtain ⟨A4, c4, rfl, _⟩ := owns_form h1; have H1 := hid (owns_rd h1); have H2 := hid h2; clear h1 h2))
        go_ret2
        exact ⟨_, rfl, ⟨_, _, _, rfl⟩, fun h => (by cases h), H2.out⟩
      · go_wp2_with (first
          | (go_at_call 224; refine HM.out.mono ?_; rintro e w3 ⟨rfl, hw⟩; replace hw := hw.symm; subst hw)
          | (go_at_call 225; refine HPF.out.mono ?_; rintro e w4 ⟨r, rfl, h1, h2⟩; obtain ⟨A4, c4, rfl, _⟩ := owns_form h1; have H1 := hid (owns_rd h1); have H2 := hid h2; clear h1 h2)
          | (go_at_call 134; refine (HPA.out _ _ w4 H1.out).mono ?_; rintro e w6 ⟨r, rfl, h1, h2, h3, h4⟩; obtain ⟨A6, c6, rfl⟩ := h1.form; have L1 := hid h1; have L2 := hid h2; clear h1 h2 h3 h4))
        go_ret2
        have G := hid (show OwnB w.heap.size w6 (.slice A6 R.length c6) R from owns_low L1.out H2.out.size)
        exact ⟨_, rfl, ⟨_, _, _, rfl⟩, G.out, H2.out.trans (L2.out.mono H2.out.size)⟩
  · have hm0 := HM0.out (by omega)
    obtain rfl : n = 0 := by omega
    subst hm0
    clear HMN HM0 h0
    simp only [show decide ((0 : Int) < 0) = false from rfl, Bool.not_false, Bool.true_and]
    cases ok
    · go_wp2_with (first
        | (go_at_call 225; refine HPF.out.mono ?_; rintro e w4 ⟨r, rfl, h1, h2⟩; obtain ⟨A4, c4, rfl, _⟩ := owns_form h1; have H1 := hid (owns_rd h1); have H2 := hid h2; clear h1 h2))
      go_ret2
      exact ⟨_, rfl, ⟨_, _, _, rfl⟩, fun h => (by cases h), H2.out⟩
    · go_wp2_with (first
        | (go_at_call 225; refine HPF.out.mono ?_; rintro e w4 ⟨r, rfl, h1, h2⟩; obtain ⟨A4, c4, rfl, _⟩ := owns_form h1; have H1 := hid (owns_rd h1); have H2 := hid h2; clear h1 h2)
        | (go_at_call 134; refine (HPA.out _ _ w4 H1.out).mono ?_; rintro e w6 ⟨r, rfl, h1, h2, h3, h4⟩; obtain ⟨A6, c6, rfl⟩ := h1.form; have L1 := hid h1; have L2 := hid h2; clear h1 h2 h3 h4))
      go_ret2
      have G := hid (show OwnB w.heap.size w6 (.slice A6 R.length c6) R from owns_low L1.out H2.out.size)
      exact ⟨_, rfl, ⟨_, _, _, rfl⟩, G.out, H2.out.trans (L2.out.mono H2.out.size)⟩
end Go.Proofs.YthonbfojpbfmgaaGreatDoor

/- Package codec: the payload by a dictionary, of integers. -/
set_option linter.unusedVariables false
set_option linter.unusedSimpArgs false
set_option linter.unnecessarySimpa false
set_option maxRecDepth 100000
namespace Go.Proofs.YthonbfojpbfmgaaGreatDoor
open Go.RowKit

def codesI (D xs : List Int) : List Nat := xs.map (firstGe D)
theorem up_I {D : List Int} (h : D.Pairwise (· < ·)) : ∀ a b, a < b → b < D.length → D.getD a 0 < D.getD b 0 := by
  intro a b h1 h2
  have := List.pairwise_iff_getElem.1 h a b (by omega) h2 h1
  simpa [List.getD, List.getElem?_eq_getElem h2, List.getElem?_eq_getElem (show a < D.length by omega)] using this
theorem place_I {D : List Int} (h : D.Pairwise (· < ·)) {x : Int} (hx : x ∈ D) : placeP (D.map pI) (pI x) = firstGe D x := by
  obtain ⟨t, ht, hxt⟩ := List.getElem_of_mem hx
  have hg : D.getD t 0 = x := by simp [List.getD, List.getElem?_eq_getElem ht, hxt]
  have hup := up_I h
  rw [placeP_found (D.map pI) (pI x) t (by simpa using ht) (fun u hu => by
    rw [pI_get D u (by omega), eqP_pI]
    have := hup u t hu ht
    exact decide_eq_false (by omega)) (by rw [pI_get D t ht, eqP_pI, hg]; simp)]
  exact (firstGe_eq D x t (by omega) (fun a ha => by have := hup a t ha ht; omega) (fun _ => by omega)).symm
theorem codes_I (xs : List Int) (h : (dictI xs).length ≤ 256) : lanesD (xs.map pI) = codesI (dictI xs) xs := by
  unfold lanesD codesI
  rw [dictI_diff xs h, List.map_map]
  apply List.map_congr_left
  intro x hx
  exact place_I (dictI_spec xs).1 (((dictI_spec xs).2 x).2 hx)
theorem listB_I (D : List Int) : listB 1 (D.map pI) = le8I D := by
  unfold listB headB
  have h1 : (D.map pI).map Prod.fst = D := by
    rw [List.map_map]; exact (List.map_congr_left (fun x _ => rfl)).trans (List.map_id D)
  have h2 : textB ((D.map pI).map Prod.snd) = [] := by
    unfold textB
    rw [List.flatMap_eq_nil_iff]
    intro s hs
    simp only [List.map_map, List.mem_map, Function.comp] at hs
    obtain ⟨i, _, rfl⟩ := hs
    rfl
  rw [if_pos rfl, h1, h2, List.append_nil]
theorem dictB_I (xs : List Int) (h : (dictI xs).length ≤ 256) :
    dictB 1 (xs.map pI) = (leN 4 (dictI xs).length ++ le8I (dictI xs)) ++ le8 (packR (needN (dictI xs).length : Nat) (codesI (dictI xs) xs)) := by
  unfold dictB
  rw [codes_I xs h, dictI_diff xs h, listB_I, List.length_map]
/-- what a payload's call hands back -/
def PayAns (w w' : World) (e : Ending) (wo : Int) (ok : Bool) (bs : List Nat) : Prop := ∃ (r : Value) (wr : Int), e = .returned (.tuple #[r, .int .i64 wr, .bool ok]) ∧ (∃ A n c, r = .slice A n c) ∧ (ok = true → wr = wo ∧ OwnB w.heap.size w' r bs) ∧ Below w.heap.size w w'
set_option maxHeartbeats 16000000 in
theorem dictPayloadI_any (xs : List Int) (u : Value) (w : World) (hu : Rd w u xs.length 1 (i64s xs)) (hl : xs.length ≤ 1048576) :
    Calls Tryz.prog 180 #[.iface 68 (.agg #[]), u] w fun e w' =>
      PayAns w w' e (needN (diffP (xs.map pI)).length : Nat) (decide ((diffP (xs.map pI)).length ≤ 256)) (dictB 1 (xs.map pI)) := by
  have HU := hid hu
  have HCL := hid (CloneI_any xs u w hu hl)
  obtain ⟨A1, c1, rfl, _, _, _⟩ := hu.form
  have hlm : (xs.mergeSort fun x y => decide (x ≤ y)).length = xs.length := List.length_mergeSort xs
  have HSO := hid (fun (w1 : World) (v : Value) (h : w1.ownsRow w.heap.size 2 1 v xs.length (i64s xs)) (h2 : Below w.heap.size w w1) => SortI_any w.heap.size xs v w1 h h2.size hl)
  have HCO := hid (fun (w1 : World) (v : Value) (h : w1.ownsRow w.heap.size 2 1 v (xs.mergeSort fun x y => decide (x ≤ y)).length (i64s (xs.mergeSort fun x y => decide (x ≤ y)))) (h2 : Below w.heap.size w w1) => CompactI_any w.heap.size _ v w1 h h2.size (by omega))
  have HUP := hid (up_I (dictI_spec xs).1)
  have HBG := hid (dictI_big xs)
  have HDB := hid (dictB_I xs)
  have HDF := hid (fun h => congrArg List.length (dictI_diff xs h))
  have HDL := hid (dictI_le xs)
  change Hid (∀ (w1 : World) (v : Value), w1.ownsRow w.heap.size 2 1 v (xs.mergeSort fun x y => decide (x ≤ y)).length (i64s (xs.mergeSort fun x y => decide (x ≤ y))) → Below w.heap.size w w1 → Calls Tryz.prog 110 #[v] w1 fun e w' => ∃ v', e = .returned v' ∧ w'.ownsRow w.heap.size 2 1 v' (dictI xs).length (i64s (dictI xs)) ∧ Below w.heap.size w1 w') at HCO
  rw [hlm] at HCO
  have HSO2 : Hid (∀ (w1 : World) (v : Value) (h : w1.ownsRow w.heap.size 2 1 v xs.length (i64s xs)) (h2 : Below w.heap.size w w1), Calls Tryz.prog 109 #[v] w1 fun e w' => e = .returned (.tuple #[]) ∧ w'.ownsRow w.heap.size 2 1 v xs.length (i64s (xs.mergeSort fun x y => decide (x ≤ y))) ∧ Below w.heap.size w1 w') := hid (by
    intro w1 v h h2; have h3 := HSO.out w1 v h h2; rw [hlm] at h3; exact h3)
  clear HSO hlm hu
  generalize xs.mergeSort (fun x y => decide (x ≤ y)) = ms at *
  obtain ⟨n, hn⟩ : ∃ n, xs.length = n := ⟨_, rfl⟩
  have HN := hid hn
  simp only [hn] at HU HCL HSO2 HCO HDL hl
  simp only [hn]
  generalize dictI xs = D at *
  obtain ⟨d, hd⟩ : ∃ d, D.length = d := ⟨_, rfl⟩
  have HD := hid hd
  simp only [hd] at HCO HBG HDB HDF HDL
  have hd9 : d ≤ n := HDL.out
  clear hd hn
  generalize xs.map pI = vs at *
  obtain ⟨R0, hR0⟩ : ∃ R0, dictB 1 vs = R0 := ⟨_, rfl⟩
  obtain ⟨nw, hnw⟩ : ∃ nw, needN (diffP vs).length = nw := ⟨_, rfl⟩
  obtain ⟨ok, hok⟩ : ∃ ok, decide ((diffP vs).length ≤ 256) = ok := ⟨_, rfl⟩
  rw [hR0, hnw, hok]
  have HRR := hid hR0
  have HNW := hid hnw
  have HOK := hid hok
  clear hR0 hnw hok
  go_enter Tryz.func180, Tryz.ntmps180
  by_cases hbig : 256 < d
  · have hbg : (d : Int) > 256 := by omega
    have hno : ok = false := HOK.out.symm.trans (decide_eq_false (by have := HBG.out hbig; omega))
    subst hno
    go_wp2_with (first
      | (go_at_call 227; refine HCL.out.mono ?_; rintro e w1 ⟨v1, rfl, h1, h2⟩; obtain ⟨A2, c2, rfl, _⟩ := owns_form h1; have H1 := hid h1; have H2 := hid h2; clear h1 h2)
      | (go_at_call 109; refine (HSO2.out w1 _ H1.out H2.out).mono ?_; rintro e w2 ⟨rfl, h1, h2⟩; have K1 := hid h1; have K2 := hid (H2.out.trans h2); clear h1 h2)
      | (go_at_call 110; refine (HCO.out w2 _ K1.out K2.out).mono ?_; rintro e w3 ⟨v3, rfl, h1, h2⟩; obtain ⟨A3, c3, rfl, _⟩ := owns_form h1; have L1 := hid h1; have L2 := hid (K2.out.trans h2); clear h1 h2))
    go_ret3
    exact ⟨_, _, rfl, ⟨_, _, _, rfl⟩, fun h => (by cases h), L2.out⟩
  · have hbg : ¬ (d : Int) > 256 := by omega
    have HDB2 := hid (HDB.out (by omega))
    have HDF2 := hid (HDF.out (by omega))
    have HDE : Hid ((diffP vs).length = d) := hid (by rw [HDF2.out, List.length_map]; exact HD.out)
    have hyes : ok = true := HOK.out.symm.trans (decide_eq_true (by rw [HDE.out]; omega))
    subst hyes
    rw [HDE.out] at HNW
    rw [HDB2.out] at HRR
    clear HBG HDB HDF HDB2 HDF2 HDE HOK
    go_upto_region 6 with (first
      | (go_at_call 227; refine HCL.out.mono ?_; rintro e w1 ⟨v1, rfl, h1, h2⟩; obtain ⟨A2, c2, rfl, _⟩ := owns_form h1; have H1 := hid h1; have H2 := hid h2; clear h1 h2)
      | (go_at_call 109; refine (HSO2.out w1 _ H1.out H2.out).mono ?_; rintro e w2 ⟨rfl, h1, h2⟩; have K1 := hid h1; have K2 := hid (H2.out.trans h2); clear h1 h2)
      | (go_at_call 110; refine (HCO.out w2 _ K1.out K2.out).mono ?_; rintro e w3 ⟨v3, rfl, h1, h2⟩; obtain ⟨A3, c3, rfl, _⟩ := owns_form h1; have L1 := hid h1; have L2 := hid (K2.out.trans h2); clear h1 h2))
    have HDR := hid (owns_rd L1.out)
    have HU3 := hid (HU.out.mono L2.out)
    clear HCL HSO2 HCO H1 H2 K1 K2 L1 HU
    go_wp2
    refine upon_make 40 (.int .u64 0) 8 Tryz.underlying28 Tryz.info45 rfl n (by omega) (by omega) (by omega) (by unfold maxLen; omega) ?_
    intro w4 hrow4 hb4 hsz4
    obtain ⟨q, hq⟩ : ∃ q, w3.heap.size = q := ⟨_, rfl⟩
    have HQ := hid hq
    have HB0 := hid L2.out.size
    rw [hq] at hrow4 hb4 hsz4 ⊢
    have HROW4 := hid hrow4
    have HB4 := hid hb4
    clear hrow4 hb4 hq
    have HLC : Hid ((codesI D xs).length = n) := hid (by unfold codesI; rw [List.length_map]; exact HN.out)
    have HTK := hid (fun (j : Nat) (h : j < xs.length) => (show (codesI D xs).take (j + 1) = (codesI D xs).take j ++ [firstGe D (xs.getD j 0)] from take_mapd_snoc (firstGe D) xs 0 j h))
    have HCV : Hid (∀ x ∈ codesI D xs, x < 18446744073709551616) := hid (by
      intro x hx
      obtain ⟨y, _, rfl⟩ := List.mem_map.1 hx
      have := firstGe_le D y
      rw [HD.out] at this; omega)
    generalize codesI D xs = ls at *
    go_wp2
    go_loopw [31] (fun i wr => ∃ j : Nat, j ≤ n ∧ i = .int .i64 j ∧ Hid (Row wr q 40 (u64s (ls.take j) ++ List.replicate (n - j) (.int .u64 0))) ∧ Hid (Below q w3 wr) ∧ Hid (q < wr.heap.size)) (fun i _ => n - (intOf i).toNat)
    case atStart => exact ⟨0, by omega, rfl, hid (by simpa [u64s] using HROW4.out), HB4, hid (by omega)⟩
    case round =>
      obtain ⟨j, hj, rfl, HR, HB, HZ⟩ := hrel
      by_cases hlt : j < n
      · obtain ⟨b, o, rfl, hs⟩ := (HU3.out.mono (by rw [HQ.out]; exact HB.out)).atI (by omega)
        have e1 := hs j (by rw [HN.out]; exact hlt)
        clear hs
        have HT := hid (HTK.out j (by rw [HN.out]; exact hlt))
        generalize xs.getD j 0 = x at *
        have HBS := hid (BinarySearch64_any (.slice A3 d c3) D x wr (by have h9 := HDR.out.mono (by rw [HQ.out]; exact HB.out); rw [HD.out]; exact h9) (by rw [HD.out]; omega) HUP.out)
        have hpl := firstGe_le D x
        rw [HD.out] at hpl
        generalize firstGe D x = p at *
        have hpu : IntKind.u64.wrap (p : Int) = (p : Int) := by rw [IntKind.wrap_u64]; omega
        go_wp2_with (go_at_call 207; refine HBS.out.mono ?_; rintro e w5 ⟨⟨bb, rfl⟩, nn, hw5⟩; have HR5 : Hid (Row w5 q 40 (u64s (ls.take j) ++ List.replicate (n - j) (.int .u64 0))) := (hid (by rw [hw5]; exact HR.out.drewN nn)); have HB5 : Hid (Below q w3 w5) := (hid (by rw [hw5]; exact Go.below_drewN HB.out nn)); have HZ5 : Hid (q < w5.heap.size) := (hid (by rw [hw5]; exact HZ.out)); clear hw5; have hcell : w5.cell? ⟨q, j, none⟩ = some (.int .u64 0) := (by rw [HR5.out.cell]; exact get_fill _ _ _ _ (by simp [u64s, List.length_take, HLC.out]; omega) (by omega)); have hfr := HR5.out.frozen j)
        go_roundw
        case rel =>
          refine ⟨j + 1, by omega, by go_num, hid ?_, hid (below_set HB5.out _ _ _ (Nat.le_refl _)), hid (by simpa [World.setCell] using HZ5.out)⟩
          have hss := HR5.out.set j (.int .u64 (p : Int))
          rw [set_fill _ _ _ _ _ (by simp [u64s, List.length_take, HLC.out]; omega) (by omega)] at hss
          rw [HT.out, u64s_append, ← Nat.sub_sub n j 1]
          exact hss
        case measure => simp [intOf]; omega
      · obtain rfl : j = n := by omega
        have htk : ls.take j = ls := by rw [← HLC.out, List.take_length]
        rw [htk, Nat.sub_self, List.replicate_zero, List.append_nil] at HR
        have HRD := hid (owns_rd (HR.out.owns (B := q) (Nat.le_refl _) (n := j) (by rw [u64s_length, HLC.out]) (by unfold maxLen; omega)))
        have HND := hid (fun (w2 : World) => Need_any d w2 (by omega))
        generalize needN d = nd at *
        have HPK := hid (fun (w2 : World) (h : Below wr.heap.size wr w2) => Pack_any (.slice (some ⟨q, 0, none⟩) j j) ls (nd : Nat) w2 (by rw [HLC.out]; exact HRD.out.mono h) HCV.out (by rw [HLC.out]; unfold maxLen; omega))
        have HWL := hid (packR_lt64 (nd : Nat) ls)
        have HWN := hid (packR_le (nd : Nat) ls (by rw [HLC.out]; exact hl))
        generalize okVals (nd : Nat) ls = okp at *
        generalize packR (nd : Nat) ls = ws at *
        have HBW : Hid (Below w3.heap.size w3 wr) := hid (by rw [HQ.out]; exact HB.out)
        have HDR2 := hid (HDR.out.mono HBW.out)
        have HBWW := hid (L2.out.trans (HBW.out.mono L2.out.size))
        clear HR HB HTK HCV HU3 HUP
        generalize wr = w5 at *
        have HN0 := hid (fun (w2 : World) => AppendU32_any w2.heap.size (.slice none 0 0) [] d w2 (OwnB.nil _ _) (Nat.le_refl _) (by omega) (by simp))
        simp only [List.nil_append] at HN0
        have HHH : Hid ((leN 4 d).length = 4) := hid (leN_length 4 d)
        generalize leN 4 d = hd at *
        have HPL := hid (fun (A5 : Option Addr) (c5 : Nat) (w0 w6 : World) (h0 : Rd w0 (.slice A3 d c3) d 1 (i64s D)) (h1 : OwnB w0.heap.size w6 (.slice A5 hd.length c5) hd) (h2 : Below w0.heap.size w0 w6) => AppendListI_any w0.heap.size (.slice A5 hd.length c5) (.slice A3 d c3) hd D w6 h1 (Stay.low (by rw [HD.out]; exact h0) h2 (Nat.le_refl _)) h2.size (by rw [HHH.out]; omega) (by rw [HD.out]; omega))
        have HBL : Hid ((hd ++ le8I D).length = 4 + 8 * d) := hid (by rw [List.length_append, HHH.out, le8I_len, HD.out])
        generalize hd ++ le8I D = bs at *
        have HPA := hid (fun (A5 : Option Addr) (c5 : Nat) (A6 : Option Addr) (c6 : Nat) (w0 w6 : World) (h0 : Rd w0 (.slice A6 ws.length c6) ws.length 1 (u64s ws)) (h1 : OwnB w0.heap.size w6 (.slice A5 bs.length c5) bs) (h2 : Below w0.heap.size w0 w6) => AppendU64s_any w0.heap.size (.slice A5 bs.length c5) (.slice A6 ws.length c6) bs ws w6 h1 (Stay.low h0 h2 (Nat.le_refl _)) HWL.out h2.size (by rw [HBL.out]; omega) HWN.out)
        generalize bs ++ le8 ws = R at *
        have hma := m_Append_I
        go_wp2_with (first
          | (go_at_call 184; refine (HND.out _).mono ?_; rintro e w6 ⟨rfl, hw⟩; replace hw := hw.symm; subst hw)
          | (go_at_call 221; refine (HPK.out _ (brefl _)).mono ?_; rintro e w6 ⟨r, rfl, h1, h2⟩; obtain ⟨A6, c6, rfl, _⟩ := owns_form h1; have P1 := hid (owns_rd h1); have P2 := hid h2; clear h1 h2)
          | (go_at_call 222; refine (HN0.out w6).mono ?_; rintro e w7 ⟨r, rfl, h1, h2, h3, h4⟩; obtain ⟨A7, c7, rfl⟩ := h1.form; have Q1 := hid h1; have Q2 := hid h2; clear h1 h2 h3 h4)
          | (go_at_call 270; refine (HPL.out _ _ w6 w7 (HDR2.out.mono P2.out) Q1.out Q2.out).mono ?_; rintro e w8 ⟨r, rfl, h1, h2, h3, h4⟩; obtain ⟨A8, c8, rfl⟩ := h1.form; have R1 := hid h1; have R2 := hid (Q2.out.trans h2); clear h1 h2 h3 h4 hma)
          | (go_at_call 134; refine (HPA.out _ _ _ _ w6 w8 P1.out R1.out R2.out).mono ?_; rintro e w9 ⟨r, rfl, h1, h2, h3, h4⟩; obtain ⟨A9, c9, rfl⟩ := h1.form; have S1 := hid h1; have S2 := hid (R2.out.trans h2); clear h1 h2 h3 h4))
        go_ret3
        have G2 := hid (HBWW.out.trans ((P2.out.trans (S2.out.mono P2.out.size)).mono HBWW.out.size))
        have G1 : Hid (OwnB w.heap.size w9 (.slice A9 R.length c9) R0) := hid (by rw [← HRR.out]; exact owns_low S1.out (Nat.le_trans HBWW.out.size P2.out.size))
        have G3 : Hid ((nd : Int) = nw) := hid (by rw [HNW.out])
        exact ⟨_, _, rfl, ⟨_, _, _, rfl⟩, fun _ => ⟨G3.out, G1.out⟩, G2.out⟩
end Go.Proofs.YthonbfojpbfmgaaGreatDoor

/- Package codec: the payload by a dictionary, of strings. -/
set_option linter.unusedVariables false
set_option linter.unusedSimpArgs false
set_option linter.unnecessarySimpa false
set_option maxRecDepth 100000
namespace Go.Proofs.YthonbfojpbfmgaaGreatDoor
open Go.RowKit Go.Sort

def codesS (D ss : List ByteArray) : List Nat := ss.map (firstGeS D)
theorem up_S {D : List ByteArray} (h : (D.map pS).Pairwise (fun a b => gtP b a)) : ∀ a b, a < b → b < D.length → ltS (D.getD a ByteArray.empty) (D.getD b ByteArray.empty) = true := by
  intro a b h1 h2
  rw [List.pairwise_map] at h
  have h3 := List.pairwise_iff_getElem.1 h a b (by omega) h2 h1
  simp only [List.getD, List.getElem?_eq_getElem h2, List.getElem?_eq_getElem (show a < D.length by omega), Option.getD_some]
  unfold gtP pS at h3
  rcases h3 with h3 | ⟨_, h3⟩
  · exact absurd h3 (by simp)
  · exact h3
theorem ltS_irrefl (x : ByteArray) : ltS x x = false := bytesLess_self _
theorem place_S {D : List ByteArray} (h : (D.map pS).Pairwise (fun a b => gtP b a)) {x : ByteArray} (hx : x ∈ D) : placeP (D.map pS) (pS x) = firstGeS D x := by
  obtain ⟨t, ht, hxt⟩ := List.getElem_of_mem hx
  have hg : D.getD t ByteArray.empty = x := by simp [List.getD, List.getElem?_eq_getElem ht, hxt]
  have hup := up_S h
  have hgd : ∀ u, u < D.length → (D.map pS).getD u dfP = pS (D.getD u ByteArray.empty) := fun u hu => by simp [List.getD, List.getElem?_eq_getElem hu]
  rw [placeP_found (D.map pS) (pS x) t (by simpa using ht) (fun u hu => by
    rw [hgd u (by omega), eqP_pS]
    have h1 := hup u t hu ht
    rw [hg] at h1
    refine beq_eq_false_iff_ne.2 (fun e => ?_)
    unfold ltS at h1
    rw [e, bytesLess_self] at h1; cases h1) (by rw [hgd t ht, eqP_pS, hg]; simp)]
  exact (firstGeS_eq D x t (by omega) (fun a ha => by have h1 := hup a t ha ht; rw [hg] at h1; exact h1) (fun _ => by rw [hg]; exact ltS_irrefl x)).symm
theorem codes_S (ss : List ByteArray) (h : (dictS ss).length ≤ 256) : lanesD (ss.map pS) = codesS (dictS ss) ss := by
  unfold lanesD codesS
  rw [dictS_diff ss h, List.map_map]
  apply List.map_congr_left
  intro x hx
  refine place_S (dictS_spec ss).1 ?_
  have h1 := ((dictS_spec ss).2 (pS x)).2 (List.mem_map.2 ⟨x, hx, rfl⟩)
  obtain ⟨y, hy, e⟩ := List.mem_map.1 h1
  unfold pS at e
  injection e with e1 e2
  rw [← e2]; exact hy
theorem listB_S (D : List ByteArray) : listB 2 (D.map pS) = strsB D := by
  unfold listB headB strsB
  have h1 : (D.map pS).map Prod.snd = D := by
    rw [List.map_map]; exact (List.map_congr_left (fun x _ => rfl)).trans (List.map_id D)
  rw [if_neg (by decide), h1]
theorem dictB_S (ss : List ByteArray) (h : (dictS ss).length ≤ 256) :
    dictB 2 (ss.map pS) = (leN 4 (dictS ss).length ++ strsB (dictS ss)) ++ le8 (packR (needN (dictS ss).length : Nat) (codesS (dictS ss) ss)) := by
  unfold dictB
  rw [codes_S ss h, dictS_diff ss h, listB_S, List.length_map]
theorem dictS_sum (ss : List ByteArray) (h : (dictS ss).length ≤ 256) : sumS (dictS ss) ≤ sumS ss := by
  have h1 := diffP_sum (ss.map pS)
  rw [dictS_diff ss h, sumT_pS, sumT_pS] at h1
  exact h1
theorem strsB_len (xs : List ByteArray) : (strsB xs).length = 4 * xs.length + sumS xs := by
  unfold strsB; rw [List.length_append, le4N_len, endsL_len, textB_len]
theorem firstGeS_le (es : List ByteArray) (t : ByteArray) : firstGeS es t ≤ es.length := List.findIdx_le_length
set_option maxHeartbeats 16000000 in
theorem dictPayloadS_any (xs : List ByteArray) (u : Value) (w : World) (hu : Rd w u xs.length 1 (strs xs)) (hl : xs.length ≤ 1048576) (hs : sumS xs ≤ 67108864) :
    Calls Tryz.prog 174 #[.iface 66 (.agg #[]), u] w fun e w' =>
      PayAns w w' e (needN (diffP (xs.map pS)).length : Nat) (decide ((diffP (xs.map pS)).length ≤ 256)) (dictB 2 (xs.map pS)) := by
  have HU := hid hu
  have HCL := hid (CloneS_any xs u w hu hl)
  obtain ⟨A1, c1, rfl, _, _, _⟩ := hu.form
  have hlm : ((xs.map (·.data.toList)).mergeSort fun x y => decide (x ≤ y)).length = xs.length := by rw [List.length_mergeSort, List.length_map]
  have HSO := hid (fun (w1 : World) (v : Value) (h : w1.ownsRow w.heap.size 9 1 v xs.length (strs xs)) (h2 : Below w.heap.size w w1) => SortS_any w.heap.size (xs.map (·.data.toList)) v w1 (by rw [List.length_map, strs_enc]; exact h) h2.size (by rw [List.length_map]; exact hl))
  have HCO := hid (fun (w1 : World) (v : Value) (h : w1.ownsRow w.heap.size 9 1 v ((xs.map (·.data.toList)).mergeSort fun x y => decide (x ≤ y)).length (((xs.map (·.data.toList)).mergeSort fun x y => decide (x ≤ y)).map encStr)) (h2 : Below w.heap.size w w1) => CompactS_any w.heap.size _ v w1 h h2.size (by omega))
  have HSM := hid (fun h => Nat.le_trans (dictS_sum xs h) hs)
  have HUP := hid (up_S (dictS_spec xs).1)
  have HBG := hid (dictS_big xs)
  have HDB := hid (dictB_S xs)
  have HDF := hid (fun h => congrArg List.length (dictS_diff xs h))
  have HDL := hid (dictS_le xs)
  have HCO2 : Hid (∀ (w1 : World) (v : Value) (h : w1.ownsRow w.heap.size 9 1 v xs.length (((xs.map (·.data.toList)).mergeSort fun x y => decide (x ≤ y)).map encStr)) (h2 : Below w.heap.size w w1), Calls Tryz.prog 104 #[v] w1 fun e w' => ∃ v', e = .returned v' ∧ w'.ownsRow w.heap.size 9 1 v' (dictS xs).length (strs (dictS xs)) ∧ Below w.heap.size w1 w') := hid (by
    intro w1 v h h2
    have h3 := HCO.out w1 v (by rw [hlm]; exact h) h2
    rw [strs_dict, show (Lib.compact ((xs.map (·.data.toList)).mergeSort fun x y => decide (x ≤ y))).length = (dictS xs).length by unfold dictS; rw [List.length_map]] at h3
    exact h3)
  have HSO2 : Hid (∀ (w1 : World) (v : Value) (h : w1.ownsRow w.heap.size 9 1 v xs.length (strs xs)) (h2 : Below w.heap.size w w1), Calls Tryz.prog 103 #[v] w1 fun e w' => e = .returned (.tuple #[]) ∧ w'.ownsRow w.heap.size 9 1 v xs.length (((xs.map (·.data.toList)).mergeSort fun x y => decide (x ≤ y)).map encStr) ∧ Below w.heap.size w1 w') := hid (by
    intro w1 v h h2; have h3 := HSO.out w1 v h h2; rw [hlm] at h3; exact h3)
  clear HCO
  clear HSO hlm hu hs
  generalize ((xs.map (·.data.toList)).mergeSort fun x y => decide (x ≤ y)).map encStr = ms at *
  obtain ⟨n, hn⟩ : ∃ n, xs.length = n := ⟨_, rfl⟩
  have HN := hid hn
  simp only [hn] at HU HCL HSO2 HCO2 HDL hl
  simp only [hn]
  generalize dictS xs = D at *
  obtain ⟨d, hd⟩ : ∃ d, D.length = d := ⟨_, rfl⟩
  have HD := hid hd
  simp only [hd] at HCO2 HBG HDB HDF HDL HSM
  have hd9 : d ≤ n := HDL.out
  clear hd hn
  generalize xs.map pS = vs at *
  obtain ⟨R0, hR0⟩ : ∃ R0, dictB 2 vs = R0 := ⟨_, rfl⟩
  obtain ⟨nw, hnw⟩ : ∃ nw, needN (diffP vs).length = nw := ⟨_, rfl⟩
  obtain ⟨ok, hok⟩ : ∃ ok, decide ((diffP vs).length ≤ 256) = ok := ⟨_, rfl⟩
  rw [hR0, hnw, hok]
  have HRR := hid hR0
  have HNW := hid hnw
  have HOK := hid hok
  clear hR0 hnw hok
  go_enter Tryz.func174, Tryz.ntmps174
  by_cases hbig : 256 < d
  · have hbg : (d : Int) > 256 := by omega
    have hno : ok = false := HOK.out.symm.trans (decide_eq_false (by have := HBG.out hbig; omega))
    subst hno
    go_wp2_with (first
      | (go_at_call 220; refine HCL.out.mono ?_; rintro e w1 ⟨v1, rfl, h1, h2⟩; obtain ⟨A2, c2, rfl, _⟩ := owns_form h1; have H1 := hid h1; have H2 := hid h2; clear h1 h2)
      | (go_at_call 103; refine (HSO2.out w1 _ H1.out H2.out).mono ?_; rintro e w2 ⟨rfl, h1, h2⟩; have K1 := hid h1; have K2 := hid (H2.out.trans h2); clear h1 h2)
      | (go_at_call 104; refine (HCO2.out w2 _ K1.out K2.out).mono ?_; rintro e w3 ⟨v3, rfl, h1, h2⟩; obtain ⟨A3, c3, rfl, _⟩ := owns_form h1; have L1 := hid h1; have L2 := hid (K2.out.trans h2); clear h1 h2))
    go_ret3
    exact ⟨_, _, rfl, ⟨_, _, _, rfl⟩, fun h => (by cases h), L2.out⟩
  · have hbg : ¬ (d : Int) > 256 := by omega
    have HDB2 := hid (HDB.out (by omega))
    have HDF2 := hid (HDF.out (by omega))
    have HSD := hid (HSM.out (by omega))
    have HDE : Hid ((diffP vs).length = d) := hid (by rw [HDF2.out, List.length_map]; exact HD.out)
    have hyes : ok = true := HOK.out.symm.trans (decide_eq_true (by rw [HDE.out]; omega))
    subst hyes
    rw [HDE.out] at HNW
    rw [HDB2.out] at HRR
    clear HBG HDB HDF HDB2 HDF2 HDE HOK
    go_upto_region 6 with (first
      | (go_at_call 220; refine HCL.out.mono ?_; rintro e w1 ⟨v1, rfl, h1, h2⟩; obtain ⟨A2, c2, rfl, _⟩ := owns_form h1; have H1 := hid h1; have H2 := hid h2; clear h1 h2)
      | (go_at_call 103; refine (HSO2.out w1 _ H1.out H2.out).mono ?_; rintro e w2 ⟨rfl, h1, h2⟩; have K1 := hid h1; have K2 := hid (H2.out.trans h2); clear h1 h2)
      | (go_at_call 104; refine (HCO2.out w2 _ K1.out K2.out).mono ?_; rintro e w3 ⟨v3, rfl, h1, h2⟩; obtain ⟨A3, c3, rfl, _⟩ := owns_form h1; have L1 := hid h1; have L2 := hid (K2.out.trans h2); clear h1 h2))
    have HDR := hid (owns_rd L1.out)
    have HU3 := hid (HU.out.mono L2.out)
    clear HCL HSO2 HCO2 H1 H2 K1 K2 L1 HU
    go_wp2
    refine upon_make 40 (.int .u64 0) 8 Tryz.underlying28 Tryz.info45 rfl n (by omega) (by omega) (by omega) (by unfold maxLen; omega) ?_
    intro w4 hrow4 hb4 hsz4
    obtain ⟨q, hq⟩ : ∃ q, w3.heap.size = q := ⟨_, rfl⟩
    have HQ := hid hq
    have HB0 := hid L2.out.size
    rw [hq] at hrow4 hb4 hsz4 ⊢
    have HROW4 := hid hrow4
    have HB4 := hid hb4
    clear hrow4 hb4 hq
    have HLC : Hid ((codesS D xs).length = n) := hid (by unfold codesS; rw [List.length_map]; exact HN.out)
    have HTK := hid (fun (j : Nat) (h : j < xs.length) => (show (codesS D xs).take (j + 1) = (codesS D xs).take j ++ [firstGeS D (xs.getD j default)] from take_mapd_snoc (firstGeS D) xs default j h))
    have HCV : Hid (∀ x ∈ codesS D xs, x < 18446744073709551616) := hid (by
      intro x hx
      obtain ⟨y, _, rfl⟩ := List.mem_map.1 hx
      have := firstGeS_le D y
      rw [HD.out] at this; omega)
    generalize codesS D xs = ls at *
    go_wp2
    go_loopw [31] (fun i wr => ∃ j : Nat, j ≤ n ∧ i = .int .i64 j ∧ Hid (Row wr q 40 (u64s (ls.take j) ++ List.replicate (n - j) (.int .u64 0))) ∧ Hid (Below q w3 wr) ∧ Hid (q < wr.heap.size)) (fun i _ => n - (intOf i).toNat)
    case atStart => exact ⟨0, by omega, rfl, hid (by simpa [u64s] using HROW4.out), HB4, hid (by omega)⟩
    case round =>
      obtain ⟨j, hj, rfl, HR, HB, HZ⟩ := hrel
      by_cases hlt : j < n
      · obtain ⟨b, o, rfl, hs⟩ := (HU3.out.mono (by rw [HQ.out]; exact HB.out)).atS (by omega)
        have e1 := hs j (by rw [HN.out]; exact hlt)
        clear hs
        have HT := hid (HTK.out j (by rw [HN.out]; exact hlt))
        generalize xs.getD j default = x at *
        have HBS := hid (BinarySearchS_any (.slice A3 d c3) D x wr (by have h9 := HDR.out.mono (by rw [HQ.out]; exact HB.out); rw [HD.out]; exact h9) (by rw [HD.out]; omega) HUP.out)
        have hpl := firstGeS_le D x
        rw [HD.out] at hpl
        generalize firstGeS D x = p at *
        have hpu : IntKind.u64.wrap (p : Int) = (p : Int) := by rw [IntKind.wrap_u64]; omega
        go_wp2_with (go_at_call 190; refine HBS.out.mono ?_; rintro e w5 ⟨⟨bb, rfl⟩, nn, hw5⟩; have HR5 : Hid (Row w5 q 40 (u64s (ls.take j) ++ List.replicate (n - j) (.int .u64 0))) := (hid (by rw [hw5]; exact HR.out.drewN nn)); have HB5 : Hid (Below q w3 w5) := (hid (by rw [hw5]; exact Go.below_drewN HB.out nn)); have HZ5 : Hid (q < w5.heap.size) := (hid (by rw [hw5]; exact HZ.out)); clear hw5; have hcell : w5.cell? ⟨q, j, none⟩ = some (.int .u64 0) := (by rw [HR5.out.cell]; exact get_fill _ _ _ _ (by simp [u64s, List.length_take, HLC.out]; omega) (by omega)); have hfr := HR5.out.frozen j)
        go_roundw
        case rel =>
          refine ⟨j + 1, by omega, by go_num, hid ?_, hid (below_set HB5.out _ _ _ (Nat.le_refl _)), hid (by simpa [World.setCell] using HZ5.out)⟩
          have hss := HR5.out.set j (.int .u64 (p : Int))
          rw [set_fill _ _ _ _ _ (by simp [u64s, List.length_take, HLC.out]; omega) (by omega)] at hss
          rw [HT.out, u64s_append, ← Nat.sub_sub n j 1]
          exact hss
        case measure => simp [intOf]; omega
      · obtain rfl : j = n := by omega
        have htk : ls.take j = ls := by rw [← HLC.out, List.take_length]
        rw [htk, Nat.sub_self, List.replicate_zero, List.append_nil] at HR
        have HRD := hid (owns_rd (HR.out.owns (B := q) (Nat.le_refl _) (n := j) (by rw [u64s_length, HLC.out]) (by unfold maxLen; omega)))
        have HND := hid (fun (w2 : World) => Need_any d w2 (by omega))
        generalize needN d = nd at *
        have HPK := hid (fun (w2 : World) (h : Below wr.heap.size wr w2) => Pack_any (.slice (some ⟨q, 0, none⟩) j j) ls (nd : Nat) w2 (by rw [HLC.out]; exact HRD.out.mono h) HCV.out (by rw [HLC.out]; unfold maxLen; omega))
        have HWL := hid (packR_lt64 (nd : Nat) ls)
        have HWN := hid (packR_le (nd : Nat) ls (by rw [HLC.out]; exact hl))
        generalize okVals (nd : Nat) ls = okp at *
        generalize packR (nd : Nat) ls = ws at *
        have HBW : Hid (Below w3.heap.size w3 wr) := hid (by rw [HQ.out]; exact HB.out)
        have HDR2 := hid (HDR.out.mono HBW.out)
        have HBWW := hid (L2.out.trans (HBW.out.mono L2.out.size))
        clear HR HB HTK HCV HU3 HUP
        generalize wr = w5 at *
        have HN0 := hid (fun (w2 : World) => AppendU32_any w2.heap.size (.slice none 0 0) [] d w2 (OwnB.nil _ _) (Nat.le_refl _) (by omega) (by simp))
        simp only [List.nil_append] at HN0
        have HHH : Hid ((leN 4 d).length = 4) := hid (leN_length 4 d)
        generalize leN 4 d = hd at *
        have HPL := hid (fun (A5 : Option Addr) (c5 : Nat) (w0 w6 : World) (h0 : Rd w0 (.slice A3 d c3) d 1 (strs D)) (h1 : OwnB w0.heap.size w6 (.slice A5 hd.length c5) hd) (h2 : Below w0.heap.size w0 w6) => AppendListS_any w0.heap.size (.slice A5 hd.length c5) (.slice A3 d c3) hd D w6 h1 (Stay.low (by rw [HD.out]; exact h0) h2 (Nat.le_refl _)) h2.size (by rw [HHH.out]; omega) (by rw [HD.out]; omega) HSD.out)
        have HBL : Hid ((hd ++ strsB D).length ≤ 4 + 4 * d + 67108864) := hid (by rw [List.length_append, HHH.out, strsB_len, HD.out]; have := HSD.out; omega)
        generalize hd ++ strsB D = bs at *
        have HPA := hid (fun (A5 : Option Addr) (c5 : Nat) (A6 : Option Addr) (c6 : Nat) (w0 w6 : World) (h0 : Rd w0 (.slice A6 ws.length c6) ws.length 1 (u64s ws)) (h1 : OwnB w0.heap.size w6 (.slice A5 bs.length c5) bs) (h2 : Below w0.heap.size w0 w6) => AppendU64s_any w0.heap.size (.slice A5 bs.length c5) (.slice A6 ws.length c6) bs ws w6 h1 (Stay.low h0 h2 (Nat.le_refl _)) HWL.out h2.size (by have := HBL.out; omega) HWN.out)
        generalize bs ++ le8 ws = R at *
        have hma := m_Append_S
        go_wp2_with (first
          | (go_at_call 184; refine (HND.out _).mono ?_; rintro e w6 ⟨rfl, hw⟩; replace hw := hw.symm; subst hw)
          | (go_at_call 221; refine (HPK.out _ (brefl _)).mono ?_; rintro e w6 ⟨r, rfl, h1, h2⟩; obtain ⟨A6, c6, rfl, _⟩ := owns_form h1; have P1 := hid (owns_rd h1); have P2 := hid h2; clear h1 h2)
          | (go_at_call 222; refine (HN0.out w6).mono ?_; rintro e w7 ⟨r, rfl, h1, h2, h3, h4⟩; obtain ⟨A7, c7, rfl⟩ := h1.form; have Q1 := hid h1; have Q2 := hid h2; clear h1 h2 h3 h4)
          | (go_at_call 264; refine (HPL.out _ _ w6 w7 (HDR2.out.mono P2.out) Q1.out Q2.out).mono ?_; rintro e w8 ⟨r, rfl, h1, h2, h3, h4⟩; obtain ⟨A8, c8, rfl⟩ := h1.form; have R1 := hid h1; have R2 := hid (Q2.out.trans h2); clear h1 h2 h3 h4 hma)
          | (go_at_call 134; refine (HPA.out _ _ _ _ w6 w8 P1.out R1.out R2.out).mono ?_; rintro e w9 ⟨r, rfl, h1, h2, h3, h4⟩; obtain ⟨A9, c9, rfl⟩ := h1.form; have S1 := hid h1; have S2 := hid (R2.out.trans h2); clear h1 h2 h3 h4))
        go_ret3
        have G2 := hid (HBWW.out.trans ((P2.out.trans (S2.out.mono P2.out.size)).mono HBWW.out.size))
        have G1 : Hid (OwnB w.heap.size w9 (.slice A9 R.length c9) R0) := hid (by rw [← HRR.out]; exact owns_low S1.out (Nat.le_trans HBWW.out.size P2.out.size))
        have G3 : Hid ((nd : Int) = nw) := hid (by rw [HNW.out])
        exact ⟨_, _, rfl, ⟨_, _, _, rfl⟩, fun _ => ⟨G3.out, G1.out⟩, G2.out⟩
end Go.Proofs.YthonbfojpbfmgaaGreatDoor

/- Package codec: the payload of a codec, of both kinds. -/
set_option linter.unusedVariables false
set_option linter.unusedSimpArgs false
set_option linter.unnecessarySimpa false
set_option maxRecDepth 100000
namespace Go.Proofs.YthonbfojpbfmgaaGreatDoor
open Go.RowKit

theorem PayAns.form {w w' : World} {e : Ending} {wo : Int} {ok : Bool} {bs : List Nat} (h : PayAns w w' e wo ok bs) : ∃ (A : Option Addr) (n c : Nat) (wr : Int), e = .returned (.tuple #[.slice A n c, .int .i64 wr, .bool ok]) ∧ (ok = true → wr = wo ∧ OwnB w.heap.size w' (.slice A n c) bs) ∧ Below w.heap.size w w' := by
  obtain ⟨r, wr, rfl, ⟨A, n, c, rfl⟩, h1, h2⟩ := h
  exact ⟨A, n, c, wr, rfl, h1, h2⟩
set_option maxHeartbeats 4000000 in
theorem payloadI_any (code : Nat) (hc : 1 ≤ code ∧ code ≤ 5) (wd : Int) (u : Value) (xs : List Int) (w : World) (hu : Rd w u xs.length 1 (i64s xs)) (hl : xs.length ≤ 1048576) :
    Calls Tryz.prog 136 #[.iface 68 (.agg #[]), u, .int .i64 code, .int .i64 wd] w fun e w' => PayAns w w' e (payW code wd (xs.map pI)) (payOk code wd (xs.map pI)) (payB 1 code wd (xs.map pI)) := by
  have HU := hid hu
  have HAL := hid (AppendListI_any w.heap.size (.slice none 0 0) u [] xs w (OwnB.nil _ _) (Stay.low hu (brefl _) (Nat.le_refl _)) (Nat.le_refl _) (by simp) hl)
  have HDC := hid (dictPayloadI_any xs u w hu hl)
  have HRU := hid (runsPayloadI_any xs u w hu hl)
  have HNU := hid (numbersI_any xs u w hu hl)
  have HFR := hid (fun (v : Value) (w2 : World) (h : Rd w2 v xs.length 1 (i64s xs)) => framePayload_any wd xs v w2 h hl)
  have HPY := hid (fun (v : Value) (w2 : World) (h : Rd w2 v xs.length 1 (i64s xs)) => packedPayload_any wd xs v w2 h hl)
  simp only [List.nil_append, ← listB_I] at HAL
  obtain ⟨A1, c1, rfl, _, _, _⟩ := hu.form
  clear hu
  generalize xs.length = n at *
  generalize xs.map pI = vs at *
  have hcc : code = 1 ∨ code = 2 ∨ code = 3 ∨ code = 4 ∨ code = 5 := by omega
  have hma := m_Append_I
  rcases hcc with rfl | rfl | rfl | rfl | rfl
  · change Calls _ _ _ _ fun e w' => PayAns w w' e 0 true (listB 1 vs)
    generalize listB 1 vs = R at *
    go_enter Tryz.func136, Tryz.ntmps136
    go_wp2_with (go_at_call 270; refine HAL.out.mono ?_; rintro e w1 ⟨r, rfl, h1, h2, h3, h4⟩; obtain ⟨A5, c5, rfl⟩ := h1.form; have K1 := hid h1; have K2 := hid h2; clear h1 h2 h3 h4)
    go_ret3
    exact ⟨_, _, rfl, ⟨_, _, _, rfl⟩, fun _ => ⟨rfl, K1.out⟩, K2.out⟩
  · change Calls _ _ _ _ fun e w' => PayAns w w' e (needN (diffP vs).length : Nat) (decide ((diffP vs).length ≤ 256)) (dictB 1 vs)
    generalize dictB 1 vs = R at *
    generalize decide ((diffP vs).length ≤ 256) = ok at *
    generalize needN (diffP vs).length = nw at *
    go_enter Tryz.func136, Tryz.ntmps136
    go_wp2_with (go_at_call 180; refine HDC.out.mono ?_; rintro e w1 hp; obtain ⟨A5, n5, c5, wr5, rfl, h1, h2⟩ := hp.form; have K1 := hid h1; have K2 := hid h2; clear h1 h2 hp)
    go_ret3
    exact ⟨_, _, rfl, ⟨_, _, _, rfl⟩, K1.out, K2.out⟩
  · change Calls _ _ _ _ fun e w' => PayAns w w' e 0 true (runsB 1 vs)
    generalize runsB 1 vs = R at *
    go_enter Tryz.func136, Tryz.ntmps136
    go_wp2_with (go_at_call 181; refine HRU.out.mono ?_; rintro e w1 ⟨r, rfl, h1, h2⟩; obtain ⟨A5, c5, rfl⟩ := h1.form; have K1 := hid h1; have K2 := hid h2; clear h1 h2)
    go_ret3
    exact ⟨_, _, rfl, ⟨_, _, _, rfl⟩, fun _ => ⟨rfl, K1.out⟩, K2.out⟩
  · change Calls _ _ _ _ fun e w' => PayAns w w' e wd (frameOk wd vs) (frameB wd vs)
    generalize frameB wd vs = R at *
    generalize frameOk wd vs = ok at *
    go_enter Tryz.func136, Tryz.ntmps136
    go_wp2_with (first
      | (go_at_call 182; refine HNU.out.mono ?_; rintro e w1 ⟨r, rfl, h1, h2⟩; obtain ⟨A5, c5, rfl, _⟩ := owns_form h1; have K1 := hid (owns_rd h1); have K2 := hid h2; clear h1 h2)
      | (go_at_call 176; refine (HFR.out _ w1 K1.out).mono ?_; rintro e w2 ⟨r, rfl, ⟨A6, n6, c6, rfl⟩, h1, h2⟩; have L1 := hid h1; have L2 := hid h2; clear h1 h2))
    go_ret3
    exact ⟨_, _, rfl, ⟨_, _, _, rfl⟩, fun h => ⟨rfl, owns_low (L1.out h) K2.out.size⟩, K2.out.trans (L2.out.mono K2.out.size)⟩
  · change Calls _ _ _ _ fun e w' => PayAns w w' e wd (packedOk wd vs) (packedB wd vs)
    generalize packedB wd vs = R at *
    generalize packedOk wd vs = ok at *
    go_enter Tryz.func136, Tryz.ntmps136
    go_wp2_with (first
      | (go_at_call 182; refine HNU.out.mono ?_; rintro e w1 ⟨r, rfl, h1, h2⟩; obtain ⟨A5, c5, rfl, _⟩ := owns_form h1; have K1 := hid (owns_rd h1); have K2 := hid h2; clear h1 h2)
      | (go_at_call 178; refine (HPY.out _ w1 K1.out).mono ?_; rintro e w2 ⟨r, rfl, ⟨A6, n6, c6, rfl⟩, h1, h2⟩; have L1 := hid h1; have L2 := hid h2; clear h1 h2))
    go_ret3
    exact ⟨_, _, rfl, ⟨_, _, _, rfl⟩, fun h => ⟨rfl, owns_low (L1.out h) K2.out.size⟩, K2.out.trans (L2.out.mono K2.out.size)⟩
set_option maxHeartbeats 4000000 in
theorem payloadS_any (code : Nat) (hc : 1 ≤ code ∧ code ≤ 3) (wd : Int) (u : Value) (xs : List ByteArray) (w : World) (hu : Rd w u xs.length 1 (strs xs)) (hl : xs.length ≤ 1048576) (hs : sumS xs ≤ 67108864) :
    Calls Tryz.prog 133 #[.iface 66 (.agg #[]), u, .int .i64 code, .int .i64 wd] w fun e w' => PayAns w w' e (payW code wd (xs.map pS)) (payOk code wd (xs.map pS)) (payB 2 code wd (xs.map pS)) := by
  have HU := hid hu
  have HAL := hid (AppendListS_any w.heap.size (.slice none 0 0) u [] xs w (OwnB.nil _ _) (Stay.low hu (brefl _) (Nat.le_refl _)) (Nat.le_refl _) (by simp) hl hs)
  have HDC := hid (dictPayloadS_any xs u w hu hl hs)
  have HRU := hid (runsPayloadS_any xs u w hu hl hs)
  simp only [List.nil_append, ← listB_S] at HAL
  obtain ⟨A1, c1, rfl, _, _, _⟩ := hu.form
  clear hu
  generalize xs.length = n at *
  generalize xs.map pS = vs at *
  have hcc : code = 1 ∨ code = 2 ∨ code = 3 := by omega
  have hma := m_Append_S
  rcases hcc with rfl | rfl | rfl
  · change Calls _ _ _ _ fun e w' => PayAns w w' e 0 true (listB 2 vs)
    generalize listB 2 vs = R at *
    go_enter Tryz.func133, Tryz.ntmps133
    go_wp2_with (go_at_call 264; refine HAL.out.mono ?_; rintro e w1 ⟨r, rfl, h1, h2, h3, h4⟩; obtain ⟨A5, c5, rfl⟩ := h1.form; have K1 := hid h1; have K2 := hid h2; clear h1 h2 h3 h4)
    go_ret3
    exact ⟨_, _, rfl, ⟨_, _, _, rfl⟩, fun _ => ⟨rfl, K1.out⟩, K2.out⟩
  · change Calls _ _ _ _ fun e w' => PayAns w w' e (needN (diffP vs).length : Nat) (decide ((diffP vs).length ≤ 256)) (dictB 2 vs)
    generalize dictB 2 vs = R at *
    generalize decide ((diffP vs).length ≤ 256) = ok at *
    generalize needN (diffP vs).length = nw at *
    go_enter Tryz.func133, Tryz.ntmps133
    go_wp2_with (go_at_call 174; refine HDC.out.mono ?_; rintro e w1 hp; obtain ⟨A5, n5, c5, wr5, rfl, h1, h2⟩ := hp.form; have K1 := hid h1; have K2 := hid h2; clear h1 h2 hp)
    go_ret3
    exact ⟨_, _, rfl, ⟨_, _, _, rfl⟩, K1.out, K2.out⟩
  · change Calls _ _ _ _ fun e w' => PayAns w w' e 0 true (runsB 2 vs)
    generalize runsB 2 vs = R at *
    go_enter Tryz.func133, Tryz.ntmps133
    go_wp2_with (go_at_call 175; refine HRU.out.mono ?_; rintro e w1 ⟨r, rfl, h1, h2⟩; obtain ⟨A5, c5, rfl⟩ := h1.form; have K1 := hid h1; have K2 := hid h2; clear h1 h2)
    go_ret3
    exact ⟨_, _, rfl, ⟨_, _, _, rfl⟩, fun _ => ⟨rfl, K1.out⟩, K2.out⟩
end Go.Proofs.YthonbfojpbfmgaaGreatDoor
