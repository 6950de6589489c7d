/- LawKleene's walk. -/
import Derived.Test.YtinkbgnhigpkeaaDoorKll
import Derived.Test.YtinkbgnhigpkeaaDoorKlm2
set_option linter.unusedVariables false
set_option linter.unusedSimpArgs false
set_option linter.unnecessarySimpa false
set_option maxRecDepth 20000
namespace Go.Proofs.YtinkbgnhigpkeaaDoor
open Go.RowKit

theorem tailW_len (m : Nat) : (tailW m).length = m := by simp [tailW]
theorem row_mid {w : World} {g o n cap : Nat} {pre mid post : List Nat} (h : Row w g 55 (u64s (pre ++ mid ++ post))) (ho : pre.length = o) (hn : mid.length = n) (hc : n ≤ cap) (hm : cap ≤ maxLen) : Rd w (.slice (some ⟨g, o, none⟩) n cap) n 1 (u64s mid) := by
  subst ho hn
  have := h.rd pre.length mid.length cap (by simp [u64s]) hc hm
  rw [u64s_append, u64s_append, List.append_assoc] at this
  have e : (u64s pre ++ (u64s mid ++ u64s post)).drop pre.length = u64s mid ++ u64s post := by
    conv => lhs; rw [← u64s_length pre]
    exact List.drop_left
  rw [e, ← u64s_length mid, List.take_left] at this
  rwa [u64s_length] at this
theorem rd_zero {w : World} {A : Option Addr} : Rd w (.slice A 0 0) 0 1 (u64s []) := ⟨by simp [u64s], .inl ⟨⟨A, rfl⟩, rfl⟩⟩
/-- the part behind the first o entries; at the end of the row the address stays -/
theorem row_cut {w : World} {g o k n c : Nat} {pre mid post : List Nat} (h : Row w g 55 (u64s (pre ++ mid ++ post))) (ho : pre.length = o + k) (hn : mid.length = n) (hc : n ≤ c - k) (hkc : k ≤ c) (hm : c ≤ maxLen) :
    Rd w (.slice (if c = k then some ⟨g, o, none⟩ else some ⟨g, o + k, none⟩) n (c - k)) n 1 (u64s mid) := by
  by_cases hck : c = k
  · obtain rfl : n = 0 := by omega
    obtain rfl : mid = [] := List.eq_nil_of_length_eq_zero hn
    rw [if_pos hck, show c - k = 0 by omega]
    exact rd_zero
  · rw [if_neg hck]
    exact row_mid h ho hn hc (by omega)
/-- the four parts of the row that layPairs laid -/
theorem laid4 {w : World} {g C k yo : Nat} {aT aU bT bU tl : List Nat} {xU yU : Option Addr} (h : Row w g 55 (u64s (aT ++ aU ++ bT ++ bU ++ tl))) (hC : aT.length + aU.length + bT.length + bU.length + tl.length = C) (hm : C ≤ maxLen) (hk : aT.length + aU.length = k)
    (hyo : (if C = k then 0 else k) = yo) (hxU : (if C = aT.length then (some ⟨g, 0, none⟩ : Option Addr) else some ⟨g, 0 + aT.length, none⟩) = xU) (hyU : (if C - k = bT.length then (some ⟨g, yo, none⟩ : Option Addr) else some ⟨g, yo + bT.length, none⟩) = yU) :
    Rd w (.slice (some ⟨g, 0, none⟩) aT.length C) aT.length 1 (u64s aT) ∧ Rd w (.slice xU aU.length (C - aT.length)) aU.length 1 (u64s aU) ∧ Rd w (.slice (some ⟨g, yo, none⟩) bT.length (C - k)) bT.length 1 (u64s bT) ∧ Rd w (.slice yU bU.length (C - k - bT.length)) bU.length 1 (u64s bU) := by
  subst hxU hyU
  refine ⟨?_, ?_, ?_, ?_⟩
  · refine row_mid (pre := []) (post := aU ++ bT ++ bU ++ tl) ?_ rfl rfl (by omega) hm
    simpa [List.append_assoc] using h
  · refine row_cut (o := 0) (pre := aT) (post := bT ++ bU ++ tl) ?_ (by simp) rfl (by omega) (by omega) hm
    simpa [List.append_assoc] using h
  · by_cases hck : C = k
    · have e1 : bT.length = 0 := by omega
      have e2 : bT = [] := List.eq_nil_of_length_eq_zero e1
      rw [e1, e2, show C - k = 0 by omega]
      exact rd_zero
    · rw [if_neg hck] at hyo
      subst hyo
      refine row_mid (pre := aT ++ aU) (post := bU ++ tl) ?_ (by simp; omega) rfl (by omega) (by omega)
      simpa [List.append_assoc] using h
  · by_cases hck : C = k
    · have e1 : bT.length = 0 := by omega
      have e3 : bU.length = 0 := by omega
      have e4 : bU = [] := List.eq_nil_of_length_eq_zero e3
      rw [e3, e4, show C - k - bT.length = 0 by omega]
      exact rd_zero
    · rw [if_neg hck] at hyo
      subst hyo
      refine row_cut (o := k) (pre := aT ++ aU ++ bT) (post := tl) ?_ (by simp only [List.length_append]; omega) rfl (by omega) (by omega) (by omega)
      simpa [List.append_assoc] using h
theorem boxed {wp w' : World} {tv uv : Value} {e : TypeId} (hb : Below wp.heap.size wp w') : Below wp.heap.size wp (w'.alloc (.cells #[tv, uv] e)) ∧ Row (w'.alloc (.cells #[tv, uv] e)) w'.heap.size e [tv, uv] ∧ Below w'.heap.size w' (w'.alloc (.cells #[tv, uv] e)) :=
  ⟨hb.alloc hb.size _, by unfold Row; rw [heap_alloc_new], (Below.refl _ _).alloc (Nat.le_refl _) _⟩
theorem rd_nil {w : World} : Rd w (.slice none 0 0) ([] : List Nat).length 1 (u64s []) := rd_zero
theorem cells_keep2 {w : World} {gy ga gb : Nat} {u v a b c d : Value} (h1 : w.cell? ⟨ga, 0, none⟩ = some a) (h2 : w.cell? ⟨ga, 1, none⟩ = some b) (h3 : w.cell? ⟨gb, 0, none⟩ = some c) (h4 : w.cell? ⟨gb, 1, none⟩ = some d) (ha : ga ≠ gy) (hb : gb ≠ gy) :
    ((w.setCell ⟨gy, 0, none⟩ u).setCell ⟨gy, 1, none⟩ v).cell? ⟨ga, 0, none⟩ = some a ∧ ((w.setCell ⟨gy, 0, none⟩ u).setCell ⟨gy, 1, none⟩ v).cell? ⟨ga, 1, none⟩ = some b ∧ ((w.setCell ⟨gy, 0, none⟩ u).setCell ⟨gy, 1, none⟩ v).cell? ⟨gb, 0, none⟩ = some c ∧ ((w.setCell ⟨gy, 0, none⟩ u).setCell ⟨gy, 1, none⟩ v).cell? ⟨gb, 1, none⟩ = some d := by
  have k : ∀ (g i : Nat) (x : Value), w.cell? ⟨g, i, none⟩ = some x → g ≠ gy → ((w.setCell ⟨gy, 0, none⟩ u).setCell ⟨gy, 1, none⟩ v).cell? ⟨g, i, none⟩ = some x := fun g i x h hne => by
    rw [← h]
    exact (World.cell?_of_block (a := ⟨g, i, none⟩) (heap_setCell_other _ ⟨gy, 1, none⟩ g v hne)).trans (World.cell?_of_block (a := ⟨g, i, none⟩) (heap_setCell_other w ⟨gy, 0, none⟩ g u hne))
  exact ⟨k _ _ _ h1 ha, k _ _ _ h2 ha, k _ _ _ h3 hb, k _ _ _ h4 hb⟩
set_option maxRecDepth 100000 in
set_option maxHeartbeats 8000000 in
theorem lawKleene_walk (op n r : Int) (av au bv bu : Value) (aT aU bT bU : List Nat) (w : World) (ht : Tab w) (h1 : Rd w av aT.length 1 (u64s aT)) (h2 : Rd w au aU.length 1 (u64s aU)) (h3 : Rd w bv bT.length 1 (u64s bT)) (h4 : Rd w bu bU.length 1 (u64s bU))
    (v1 : ∀ x ∈ aT, x < 18446744073709551616) (v2 : ∀ x ∈ aU, x < 18446744073709551616) (v3 : ∀ x ∈ bT, x < 18446744073709551616) (v4 : ∀ x ∈ bU, x < 18446744073709551616)
    (l1 : aT.length ≤ 1048576) (l2 : aU.length ≤ 1048576) (l3 : bT.length ≤ 1048576) (l4 : bU.length ≤ 1048576) :
    Calls Tryd.prog 3 #[.int .i64 op, .int .i64 n, .agg #[av, au], .agg #[bv, bu], .int .i64 r] w fun e w' => e = .returned (.bool true) ∧ Below w.heap.size w w' := by
  have hmc := clipN_le r
  obtain ⟨m, hmr⟩ : ∃ m, clipN r = m := ⟨_, rfl⟩
  rw [hmr] at hmc
  obtain ⟨L, hL⟩ : ∃ L, aT ++ aU ++ bT ++ bU = L := ⟨_, rfl⟩
  obtain ⟨C, hC⟩ : ∃ C, L.length + m = C := ⟨_, rfl⟩
  have hLL : L.length = aT.length + aU.length + bT.length + bU.length := by rw [← hL]; simp only [List.length_append]
  have M1 : Hid (aT.length ≤ maxLen ∧ aU.length ≤ maxLen ∧ bT.length ≤ maxLen ∧ bU.length ≤ maxLen) := hid (by unfold maxLen; omega)
  have HT := hid ht
  have HTL := hid ht.lt
  have HLP := hid (fun (w2 : World) (hb : Below w.heap.size w w2) => by
    have := layPairs_any av au bv bu aT aU bT bU L r w2 (h1.mono hb) (h2.mono hb) (h3.mono hb) (h4.mono hb) l1 l2 l3 l4 hL
    rw [hmr, hC] at this
    exact this)
  have HKL := hid (fun (op : Int) (w2 : World) (hb : Below w.heap.size w w2) (xv xu yv yu : Value) (g1 : Rd w2 xv aT.length 1 (u64s aT)) (g2 : Rd w2 xu aU.length 1 (u64s aU)) (g3 : Rd w2 yv bT.length 1 (u64s bT)) (g4 : Rd w2 yu bU.length 1 (u64s bU)) =>
    Kleene_any op n xv xu yv yu aT aU bT bU w2 (ht.mono hb ht.lt) g1 g2 g3 g4 v1 v2 v3 v4 M1.out.1 M1.out.2.1 M1.out.2.2.1 M1.out.2.2.2)
  have HKR := hid (fun (op : Int) (w2 : World) (hb : Below w.heap.size w w2) => refKleene_any op n av au bv bu aT aU bT bU w2 (h1.mono hb) (h2.mono hb) (h3.mono hb) (h4.mono hb) v1 v2 v3 v4 M1.out.1 M1.out.2.1 M1.out.2.2.1 M1.out.2.2.2)
  have H1 := hid h1; have H2 := hid h2; have H3 := hid h3; have H4 := hid h4
  have V1 := hid v1; have V2 := hid v2; have V3 := hid v3; have V4 := hid v4
  have HLE := hid hL
  obtain ⟨A1, c1, rfl, _, _, _⟩ := h1.form
  obtain ⟨A2, c2, rfl, _, _, _⟩ := h2.form
  obtain ⟨A3, c3, rfl, _, _, _⟩ := h3.form
  obtain ⟨A4, c4, rfl, _, _, _⟩ := h4.form
  clear h1 h2 h3 h4 v1 v2 v3 v4 ht hL hmr
  go_enter Tryd.func3, Tryd.ntmps3
  go_upto_region 1 with fail
  obtain ⟨ra, rz, hbw⟩ := rows2d (u := w) (X := #[.slice A1 aT.length c1, .slice A2 aU.length c2]) (Y := #[.slice A3 bT.length c3, .slice A4 bU.length c4]) (eX := 24) (eY := 24)
  have HRA := hid ra; have HRB := hid rz; have HBW := hid hbw
  clear ra rz hbw
  have hga : w.heap.size + 1 < ((w.alloc (.cells #[.slice A1 aT.length c1, .slice A2 aU.length c2] 24)).alloc (.cells #[.slice A3 bT.length c3, .slice A4 bU.length c4] 24)).heap.size := HRB.out.lt
  generalize (w.alloc (.cells #[.slice A1 aT.length c1, .slice A2 aU.length c2] 24)).alloc (.cells #[.slice A3 bT.length c3, .slice A4 bU.length c4] 24) = w0 at *
  obtain ⟨a0, a1⟩ := cell2 HRA.out
  obtain ⟨b0, b1⟩ := cell2 HRB.out
  go_upto_region 2 with (go_at_call 5; refine (HLP.out _ HBW.out).mono ?_; rintro e w1 ⟨g0, rfl, hg0, hr1, hb1⟩; have HRG1 := hid hr1; have HB1 := hid hb1; clear hr1 hb1)
  have HRA1 := hid (HRA.out.mono HB1.out)
  have HRB1 := hid (HRB.out.mono HB1.out)
  have HBW1 := hid (Below.then' HBW.out HB1.out HBW.out.size)
  have hg1 := HRG1.out.lt
  clear a0 a1 b0 b1 HRA HRB HBW HB1
  obtain ⟨a0, a1⟩ := cell2 HRA1.out
  obtain ⟨b0, b1⟩ := cell2 HRB1.out
  obtain ⟨xU, hxU⟩ : ∃ xU, (if C = aT.length then (some ⟨g0, 0, none⟩ : Option Addr) else some ⟨g0, 0 + aT.length, none⟩) = xU := ⟨_, rfl⟩
  have HCX := hid (fun (w2 : World) => by
    have := cutPair_any g0 0 C C aT.length aU.length c1 c2 A1 A2 w2 (by omega) (Nat.le_refl _) (by unfold maxLen; omega)
    rw [hxU] at this
    exact this)
  have HXU := hid hxU
  clear hxU
  go_upto_region 3 with (go_at_call 6; refine (HCX.out _).mono ?_; rintro e w2 ⟨rfl, hb2⟩; have HB2 := hid hb2; clear hb2)
  have hsz1 : w.heap.size ≤ w1.heap.size := HBW1.out.size
  have hsz2 : w1.heap.size ≤ w2.heap.size := HB2.out.size
  have nal : Below w2.heap.size w2 (w2.alloc (.cells #[.slice (some ⟨g0, 0, none⟩) aT.length C, .slice xU aU.length (C - aT.length)] 24)) := (Below.refl _ _).alloc (Nat.le_refl _) _
  have HRA3 := hid ((HRA1.out.mono HB2.out).mono nal)
  have HRB3 := hid ((HRB1.out.mono HB2.out).mono nal)
  have HRG3 := hid ((HRG1.out.mono HB2.out).mono nal)
  have HRX3 : Hid (Row (w2.alloc (.cells #[.slice (some ⟨g0, 0, none⟩) aT.length C, .slice xU aU.length (C - aT.length)] 24)) w2.heap.size 24 [.slice (some ⟨g0, 0, none⟩) aT.length C, .slice xU aU.length (C - aT.length)]) := hid (by unfold Row; rw [heap_alloc_new])
  have HBW3 := hid (Below.then' (Below.then' HBW1.out HB2.out hsz1) nal (Nat.le_trans hsz1 hsz2))
  clear a0 a1 b0 b1 HRA1 HRB1 HRG1 HBW1 HB2 nal HCX
  have hgx : g0 < w2.heap.size := Nat.lt_of_lt_of_le hg1 hsz2
  have hgx2 : w.heap.size ≤ w2.heap.size := Nat.le_trans hsz1 hsz2
  generalize w2.alloc (.cells #[.slice (some ⟨g0, 0, none⟩) aT.length C, .slice xU aU.length (C - aT.length)] 24) = w3 at *
  generalize w2.heap.size = gx at *
  obtain ⟨a0, a1⟩ := cell2 HRA3.out
  obtain ⟨b0, b1⟩ := cell2 HRB3.out
  obtain ⟨k, hk⟩ : ∃ k, aT.length + aU.length = k := ⟨_, rfl⟩
  have hki : (aT.length : Int) + (aU.length : Int) = (k : Int) := by omega
  have hkc : (k : Int) ≤ (C : Int) := by omega
  have hk0 : (0 : Int) ≤ (k : Int) := by omega
  have hkw : IntKind.i64.wrap ((aT.length : Int) + (aU.length : Int)) = (k : Int) := by rw [hki, IntKind.wrap_i64]; omega
  have hkw2 : IntKind.i64.wrap (k : Int) = (k : Int) := by rw [IntKind.wrap_i64]; omega
  have hsz3 : w.heap.size ≤ w3.heap.size := HBW3.out.size
  obtain ⟨yo, hyo⟩ : ∃ yo, (if C = k then 0 else k) = yo := ⟨_, rfl⟩
  have hya : (if C = k then (some ⟨g0, 0, none⟩ : Option Addr) else some ⟨g0, k, none⟩) = some ⟨g0, yo, none⟩ := by rw [← hyo]; split <;> rfl
  obtain ⟨yU, hyU⟩ : ∃ yU, (if C - k = bT.length then (some ⟨g0, yo, none⟩ : Option Addr) else some ⟨g0, yo + bT.length, none⟩) = yU := ⟨_, rfl⟩
  have HCY := hid (fun (w2 : World) => by
    have := cutPair_any g0 yo (C - k) (C - k) bT.length bU.length c3 c4 A3 A4 w2 (by omega) (Nat.le_refl _) (by unfold maxLen; omega)
    rw [hyU] at this
    exact this)
  have HYU := hid hyU; have HYO := hid hyo; have HYA := hid hya
  clear hyU hyo hya
  have hgb3 : w.heap.size + 1 < w3.heap.size := HRB3.out.lt
  go_cut [13] from 34 to 44 (fun s13 wc => ∃ gy : Nat, s13 = .pointer (some ⟨gy, 0, none⟩) ∧ w3.heap.size ≤ gy ∧ Hid (Row wc gy 24 [.slice (some ⟨g0, yo, none⟩) bT.length (C - k), .slice yU bU.length (C - k - bT.length)]) ∧ Hid (Below w3.heap.size w3 wc))
  case first =>
    go_region_held3 (fun w' => w'.cell? ⟨w.heap.size, 0, none⟩ = some (.slice A1 aT.length c1) ∧ w'.cell? ⟨w.heap.size, 1, none⟩ = some (.slice A2 aU.length c2) ∧ w'.cell? ⟨w.heap.size + 1, 0, none⟩ = some (.slice A3 bT.length c3) ∧ w'.cell? ⟨w.heap.size + 1, 1, none⟩ = some (.slice A4 bU.length c4)) (first | exact cells_keep2 p0 p1 q0 q1 (by omega) (by omega) | go_keep)
      (first
        | (go_at_call 6; rw [HYA.out]; refine (HCY.out _).mono ?_; rintro e w4 ⟨rfl, hb4⟩; have HB4 : Hid (Below w3.heap.size w3 w4) := hid ((bdrew (brefl w3) 1).trans hb4); have HRA4 := hid (HRA3.out.mono HB4.out); have HRB4 := hid (HRB3.out.mono HB4.out); obtain ⟨p0, p1⟩ := cell2 HRA4.out; obtain ⟨q0, q1⟩ := cell2 HRB4.out; clear hb4)
        | (go_at_call 6; rw [HYA.out]; refine (HCY.out _).mono ?_; rintro e w4 ⟨rfl, hb4⟩; have HB4 : Hid (Below w3.heap.size w3 w4) := hid (Below.trans (bdrew ((brefl w3).alloc (Nat.le_refl _) (.cells #[.slice none 0 0, .slice none 0 0] 24)) 1) (hb4.mono (by simp))); have HRY4 : Hid (Row w4 w3.heap.size 24 [.slice none 0 0, .slice none 0 0]) := hid (Row.mono (show Row (w3.alloc (.cells #[.slice none 0 0, .slice none 0 0] 24)).drew w3.heap.size 24 [.slice none 0 0, .slice none 0 0] by show Row (w3.alloc (.cells #[.slice none 0 0, .slice none 0 0] 24)) w3.heap.size 24 [.slice none 0 0, .slice none 0 0]; unfold Row; rw [heap_alloc_new]) hb4); have HRA4 := hid (HRA3.out.mono HB4.out); have HRB4 := hid (HRB3.out.mono HB4.out); obtain ⟨p0, p1⟩ := cell2 HRA4.out; obtain ⟨q0, q1⟩ := cell2 HRB4.out; obtain ⟨y0, y1⟩ := cell2 HRY4.out; have f0 := HRY4.out.frozen 0; have f1 := HRY4.out.frozen 1; clear hb4))
    · go_wp2_with fail
      go_meet
      exact ⟨w4.heap.size, rfl, HB4.out.size, hid (by unfold Row; rw [heap_alloc_new]), hid (HB4.out.alloc HB4.out.size _)⟩
    · go_wp2_with fail
      go_meet
      exact ⟨w3.heap.size, rfl, Nat.le_refl _, hid ((HRY4.out.set 0 _).set 1 _), hid (below_set (below_set HB4.out _ _ _ (Nat.le_refl _)) _ _ _ (Nat.le_refl _))⟩
  case rest =>
    obtain ⟨gy, rfl, hgy, HRY, HB5⟩ := hcut
    have HRA5 := hid (HRA3.out.mono HB5.out)
    have HRB5 := hid (HRB3.out.mono HB5.out)
    have HRG5 := hid (HRG3.out.mono HB5.out)
    have HRX5 := hid (HRX3.out.mono HB5.out)
    have HBW5 := hid (Below.then' HBW3.out HB5.out hsz3)
    have hsz5 : w3.heap.size ≤ wc.heap.size := HB5.out.size
    have hgxl : gx < w3.heap.size := HRX3.out.lt
    have hgyl : gy < wc.heap.size := HRY.out.lt
    rw [← HLE.out] at HRG5
    obtain ⟨d1, d2, d3, d4⟩ := laid4 HRG5.out (C := C) (k := k) (yo := yo) (by rw [tailW_len]; omega) (by unfold maxLen; omega) hk HYO.out HXU.out HYU.out
    have HKN := hid (HKL.out op wc HBW5.out _ _ _ _ d1 d2 d3 d4)
    clear d1 d2 d3 d4 a0 a1 b0 b1 HRA3 HRB3 HRG3 HRX3 HBW3 HB5 HCY HYU HYO HYA HXU
    obtain ⟨x0, x1⟩ := cell2 HRX5.out
    obtain ⟨y0, y1⟩ := cell2 HRY.out
    obtain ⟨K, hK⟩ : ∃ K, kleOk op n aT aU bT bU = K := ⟨_, rfl⟩
    obtain ⟨T2, hT2⟩ : ∃ T2, kleV 2 op n aT aU bT bU = T2 := ⟨_, rfl⟩
    obtain ⟨U2, hU2⟩ : ∃ U2, kleV 1 op n aT aU bT bU = U2 := ⟨_, rfl⟩
    unfold KleeneSays at HKN
    rw [hK, hT2, hU2] at HKN
    have HRF := hid (fun (w2 : World) (hb : Below w.heap.size w w2) => by
      have := HKR.out op w2 hb
      unfold KleeneDue at this
      rw [hK, hT2, hU2] at this
      exact this)
    have HT2L : Hid (T2.length ≤ 65536) := hid (by rw [← hT2]; exact kleV_len _ _ _ _ _ _ _)
    have HU2L : Hid (U2.length ≤ 65536) := hid (by rw [← hU2]; exact kleV_len _ _ _ _ _ _ _)
    clear hK hT2 hU2
    go_upto_region 5 with (go_at_call 7; refine HKN.out.mono ?_; rintro e w6 ⟨tv, uv, rfl, ho1, ho2, hd, hb6⟩; have HO1 := hid ho1; have HO2 := hid ho2; have HD := hid hd; have HB6 := hid hb6; obtain ⟨AT, cT, rfl, _, _, _, _⟩ := owns_form ho1; obtain ⟨AU, cU, rfl, _, _, _, _⟩ := owns_form ho2; clear ho1 ho2 hd hb6)
    rw [HLE.out] at HRG5
    have hsz6 : wc.heap.size ≤ w6.heap.size := HB6.out.size
    have nal : Below w6.heap.size w6 (w6.alloc (.cells #[.slice AT T2.length cT, .slice AU U2.length cU] 24)) := (Below.refl _ _).alloc (Nat.le_refl _) _
    have HB57 : Hid (Below wc.heap.size wc (w6.alloc (.cells #[.slice AT T2.length cT, .slice AU U2.length cU] 24))) := hid (Below.then' HB6.out nal hsz6)
    have HRA7 := hid (HRA5.out.mono HB57.out)
    have HRB7 := hid (HRB5.out.mono HB57.out)
    have HRG7 := hid (HRG5.out.mono HB57.out)
    have HBW7 := hid (Below.then' HBW5.out HB57.out HBW5.out.size)
    have HRO7 : Hid (Row (w6.alloc (.cells #[.slice AT T2.length cT, .slice AU U2.length cU] 24)) w6.heap.size 24 [.slice AT T2.length cT, .slice AU U2.length cU]) := hid (by unfold Row; rw [heap_alloc_new])
    have HO17 := hid (owns_below HO1.out nal)
    have HO27 := hid (owns_below HO2.out nal)
    have hszB7 := HB57.out.size
    clear HO1 HO2 HB6 nal HRA5 HRB5 HRG5 HRX5 HRY x0 x1 y0 y1 HKN HB57
    generalize w6.alloc (.cells #[.slice AT T2.length cT, .slice AU U2.length cU] 24) = w7 at *
    generalize w6.heap.size = go at *
    obtain ⟨a0, a1⟩ := cell2 HRA7.out
    obtain ⟨b0, b1⟩ := cell2 HRB7.out
    have hsz7 := HBW7.out.size
    go_upto_region 6 with (go_at_call 8; refine (HRF.out _ HBW7.out).mono ?_; rintro e w8 ⟨dt, du, rfl, ho1, ho2, hb8⟩; have HDO1 := hid (owns_rd ho1); have HDO2 := hid (owns_rd ho2); have HB8 := hid hb8; obtain ⟨DT, e1, rfl, _, _, _, _⟩ := owns_form ho1; obtain ⟨DU, e2, rfl, _, _, _, _⟩ := owns_form ho2; clear ho1 ho2 hb8)
    have hsz8 : w7.heap.size ≤ w8.heap.size := HB8.out.size
    have nal : Below w8.heap.size w8 (w8.alloc (.cells #[.slice DT T2.length e1, .slice DU U2.length e2] 24)) := (Below.refl _ _).alloc (Nat.le_refl _) _
    have HB79 : Hid (Below w7.heap.size w7 (w8.alloc (.cells #[.slice DT T2.length e1, .slice DU U2.length e2] 24))) := hid (Below.then' HB8.out nal hsz8)
    have HRA9 := hid (HRA7.out.mono HB79.out)
    have HRB9 := hid (HRB7.out.mono HB79.out)
    have HRG9 := hid (HRG7.out.mono HB79.out)
    have HRO9 := hid (HRO7.out.mono HB79.out)
    have HO19 := hid (owns_below HO17.out HB79.out)
    have HO29 := hid (owns_below HO27.out HB79.out)
    have HBW9 := hid (Below.then' HBW7.out HB79.out hsz7)
    have HRD9 : Hid (Row (w8.alloc (.cells #[.slice DT T2.length e1, .slice DU U2.length e2] 24)) w8.heap.size 24 [.slice DT T2.length e1, .slice DU U2.length e2]) := hid (by unfold Row; rw [heap_alloc_new])
    have HSP := hid (fun (w2 : World) (h : w2 = w8.alloc (.cells #[.slice DT T2.length e1, .slice DU U2.length e2] 24)) => samePair_any (.agg #[.slice AT T2.length cT, .slice AU U2.length cU]) (.agg #[.slice DT T2.length e1, .slice DU U2.length e2]) _ _ _ _ T2 U2 w2 rfl rfl (by rw [h]; exact owns_rd HO19.out) (by rw [h]; exact owns_rd HO29.out) (by rw [h]; exact HDO1.out.mono nal) (by rw [h]; exact HDO2.out.mono nal) (by have := HT2L.out; unfold maxLen; omega) (by have := HU2L.out; unfold maxLen; omega))
    have HSP2 := hid (HSP.out _ rfl)
    have hszB9 := HB79.out.size
    clear a0 a1 b0 b1 HRA7 HRB7 HRG7 HRO7 HO17 HO27 HBW7 HB79 HB8 nal HSP HDO1 HDO2
    generalize w8.alloc (.cells #[.slice DT T2.length e1, .slice DU U2.length e2] 24) = w9 at *
    generalize w8.heap.size = gd at *
    have hKK : (K != K) = false := by simp
    obtain ⟨o0, o1⟩ := cell2 HRO9.out
    obtain ⟨d0, d1⟩ := cell2 HRD9.out
    go_upto_region 8 with (go_at_call 9; refine HSP2.out.mono ?_; rintro e w10 ⟨rfl, hb10⟩; have HB10 := hid hb10; clear hb10)
    have hsz9 : wc.heap.size ≤ w9.heap.size := Nat.le_trans hszB7 hszB9
    have HRA10 := hid (HRA9.out.mono HB10.out)
    have HRB10 := hid (HRB9.out.mono HB10.out)
    have HRG10 := hid (HRG9.out.mono HB10.out)
    have HRO10 := hid (HRO9.out.mono HB10.out)
    have HO110 := hid (owns_below HO19.out HB10.out)
    have HO210 := hid (owns_below HO29.out HB10.out)
    have HBW10 := hid (Below.then' HBW9.out HB10.out HBW9.out.size)
    clear o0 o1 d0 d1 HRA9 HRB9 HRG9 HRO9 HRD9 HO19 HO29 HBW9 HSP2
    obtain ⟨a0, a1⟩ := cell2 HRA10.out
    obtain ⟨b0, b1⟩ := cell2 HRB10.out
    obtain ⟨o0, o1⟩ := cell2 HRO10.out
    have nal : Below w10.heap.size w10 (w10.alloc (.cells #[.slice AT T2.length cT, .slice AU U2.length cU] 22)) := (Below.refl _ _).alloc (Nat.le_refl _) _
    have hnew : Row (w10.alloc (.cells #[.slice AT T2.length cT, .slice AU U2.length cU] 22)) w10.heap.size 22 [.slice AT T2.length cT, .slice AU U2.length cU] := by unfold Row; rw [heap_alloc_new]
    have HOW : Hid (Calls Tryd.prog 10 #[.slice (some ⟨w10.heap.size, 0, none⟩) 2 2, .int .i64 r] (w10.alloc (.cells #[.slice AT T2.length cT, .slice AU U2.length cU] 22)) fun e w' => e = .returned (.bool true) ∧ Below wc.heap.size (w10.alloc (.cells #[.slice AT T2.length cT, .slice AU U2.length cU] 22)) w') := hid (by
      have o1' := owns_below HO110.out nal
      have o2' := owns_below HO210.out nal
      refine ownWords_any wc.heap.size _ [.slice AT T2.length cT, .slice AU U2.length cU] (fun j => if j = 0 then T2.length else U2.length) (fun j => if j = 0 then u64s T2 else u64s U2) r _ (hnew.rd' rfl (by unfold maxLen; decide)) (by simp; have := HB10.out.size; omega) (by simp) (fun j => by have h1 := HT2L.out; have h2 := HU2L.out; by_cases h : j = 0 <;> simp [h] <;> omega) (fun j hj => ?_) (fun i j hij hj => ?_) (fun k hk j hj => ?_)
      · have : j = 0 ∨ j = 1 := by simp at hj; omega
        rcases this with rfl | rfl
        · exact o1'
        · exact o2'
      · have : i = 0 ∧ j = 1 := by simp at hj; omega
        obtain ⟨rfl, rfl⟩ := this
        exact HD.out
      · simp [Value.ownBlock] at hk
        subst hk
        have : j = 0 ∨ j = 1 := by simp at hj; omega
        rcases this with rfl | rfl
        · intro h
          have := (HO110.out.lt _ h).2
          omega
        · intro h
          have := (HO210.out.lt _ h).2
          omega)
    have HRA11 := hid (HRA10.out.mono nal)
    have HRB11 := hid (HRB10.out.mono nal)
    have HRG11 := hid (HRG10.out.mono nal)
    have HBW11 := hid (Below.then' HBW10.out nal HBW10.out.size)
    have hlt5 : w.heap.size + 1 < wc.heap.size := by omega
    have hg05 : g0 < wc.heap.size := by omega
    go_upto_region 10 with (first
      | (go_at_call 10; refine HOW.out.mono ?_; rintro e w12 ⟨rfl, hb12⟩; have HRA12 := hid (HRA11.out.below hb12 (by omega)); have HRB12 := hid (HRB11.out.below hb12 (by omega)); have HRG12 := hid (HRG11.out.below hb12 hg05); have HBW12 : Hid (Below w.heap.size w w12) := hid (HBW11.out.trans (hb12.mono (by omega))); clear hb12 a0 a1 b0 b1 o0 o1; obtain ⟨a0, a1⟩ := cell2 HRA12.out; obtain ⟨b0, b1⟩ := cell2 HRB12.out)
      | (go_at_call 5; refine (HLP.out _ HBW12.out).mono ?_; rintro e w13 ⟨g2, rfl, hg2, hr13, hb13⟩; have HRG13 := hid hr13; have HB13 := hid hb13; clear hr13 hb13)
      | (go_at_call 11; refine (sameWords_same _ _ (L ++ tailW m) _ (by rw [show (L ++ tailW m).length = C by rw [List.length_append, tailW_len]; exact hC]; exact (HRG12.out.mono HB13.out).rd' (by rw [u64s_length, List.length_append, tailW_len]; exact hC) (by unfold maxLen; omega)) (by rw [show (L ++ tailW m).length = C by rw [List.length_append, tailW_len]; exact hC]; exact HRG13.out.rd' (by rw [u64s_length, List.length_append, tailW_len]; exact hC) (by unfold maxLen; omega)) (by rw [List.length_append, tailW_len, hC]; unfold maxLen; omega)).mono ?_; rintro e w14 ⟨rfl, nd14, rfl⟩))
    have HRA15 : Hid (Row (w13.drewN nd14) w.heap.size 24 [.slice A1 aT.length c1, .slice A2 aU.length c2]) := hid (HRA12.out.mono (bdrew HB13.out nd14))
    have HRB15 : Hid (Row (w13.drewN nd14) (w.heap.size + 1) 24 [.slice A3 bT.length c3, .slice A4 bU.length c4]) := hid (HRB12.out.mono (bdrew HB13.out nd14))
    have HBW15 : Hid (Below w.heap.size w (w13.drewN nd14)) := hid (bdrew (Below.then' HBW12.out HB13.out HBW12.out.size) nd14)
    clear HLP HRF HT2L HU2L HD a0 a1 b0 b1 HRA10 HRB10 HRG10 HRO10 HO110 HO210 HBW10 HB10 HOW HRA11 HRB11 HRG11 HBW11 HRA12 HRB12 HRG12 HBW12 HB13 HRG13 nal hnew
    generalize w13.drewN nd14 = w15 at *
    obtain ⟨a0, a1⟩ := cell2 HRA15.out
    obtain ⟨b0, b1⟩ := cell2 HRB15.out
    obtain ⟨KA, hKA⟩ : ∃ KA, kleOk 10 n aT aU bT bU = KA := ⟨_, rfl⟩
    obtain ⟨T10, hT10⟩ : ∃ T, kleV 2 10 n aT aU bT bU = T := ⟨_, rfl⟩
    obtain ⟨U10, hU10⟩ : ∃ T, kleV 1 10 n aT aU bT bU = T := ⟨_, rfl⟩
    have HK10 := hid (HKL.out 10 w15 HBW15.out _ _ _ _ (H1.out.mono HBW15.out) (H2.out.mono HBW15.out) (H3.out.mono HBW15.out) (H4.out.mono HBW15.out))
    have HF10 := hid (fun (w2 : World) (hb : Below w.heap.size w w2) => HKR.out 10 w2 hb)
    unfold KleeneSays at HK10
    unfold KleeneDue at HF10
    rw [hKA, hT10, hU10] at HK10 HF10

    go_upto_region 11 with (go_at_call 7; refine HK10.out.mono ?_; rintro e wz ⟨tv, uv, rfl, ho1, ho2, _, hbz⟩; have HO1 := hid ho1; have HO2 := hid ho2; have HBZ := hid hbz; obtain ⟨ApT, cpT, rfl, _, _, _, _⟩ := owns_form ho1; obtain ⟨ApU, cpU, rfl, _, _, _, _⟩ := owns_form ho2; clear ho1 ho2 hbz)
    obtain ⟨hbn, hrn, nal⟩ := boxed (tv := .slice ApT T10.length cpT) (uv := .slice ApU U10.length cpU) (e := 24) HBZ.out
    have HRA16 := hid (HRA15.out.mono hbn)
    have HRB16 := hid (HRB15.out.mono hbn)
    have HRp16 := hid hrn
    have RTp16 := hid ((owns_rd HO1.out).mono nal)
    have RUp16 := hid ((owns_rd HO2.out).mono nal)
    have HBW16 := hid (Below.then' HBW15.out hbn HBW15.out.size)
    clear hbn hrn nal HO1 HO2 HBZ
    generalize wz.alloc (.cells #[.slice ApT T10.length cpT, .slice ApU U10.length cpU] 24) = w16 at *
    generalize wz.heap.size = gp at *
    clear a0 a1 b0 b1 HRA15 HRB15 HBW15 HK10
    obtain ⟨a0, a1⟩ := cell2 HRA16.out
    obtain ⟨b0, b1⟩ := cell2 HRB16.out
    go_upto_region 12 with (go_at_call 8; refine (HF10.out _ HBW16.out).mono ?_; rintro e w17 ⟨dt, du, rfl, _, _, hb17⟩; have HB17 := hid hb17; clear hb17)
    have HRA17 := hid (HRA16.out.mono HB17.out)
    have HRB17 := hid (HRB16.out.mono HB17.out)
    have HRp17 := hid (HRp16.out.mono HB17.out)
    have RTp17 := hid (RTp16.out.mono HB17.out)
    have RUp17 := hid (RUp16.out.mono HB17.out)
    have HBW17 := hid (Below.then' HBW16.out HB17.out HBW16.out.size)
    clear a0 a1 b0 b1 HRA16 HRB16 HRp16 RTp16 RUp16 HBW16 HB17 HF10
    cases KA
    · go_wp2_with fail
      go_ret
      exact ⟨rfl, HBW17.out⟩
    obtain ⟨q1, q2, q3, q4, q5⟩ := demorgan hKA
    have qT := q5 2
    have qU := q5 1
    rw [hT10, hU10] at q3 qT qU
    obtain ⟨TL, hTL⟩ : ∃ T, kleV 2 12 n T10 U10 [] [] = T := ⟨_, rfl⟩
    obtain ⟨UL, hUL⟩ : ∃ T, kleV 1 12 n T10 U10 [] [] = T := ⟨_, rfl⟩
    obtain ⟨TA, hTA⟩ : ∃ T, kleV 2 12 n aT aU [] [] = T := ⟨_, rfl⟩
    obtain ⟨UA, hUA⟩ : ∃ T, kleV 1 12 n aT aU [] [] = T := ⟨_, rfl⟩
    obtain ⟨TB, hTB⟩ : ∃ T, kleV 2 12 n bT bU [] [] = T := ⟨_, rfl⟩
    obtain ⟨UB, hUB⟩ : ∃ T, kleV 1 12 n bT bU [] [] = T := ⟨_, rfl⟩
    rw [hTL, hTA, hUA, hTB, hUB] at qT
    rw [hUL, hTA, hUA, hTB, hUB] at qU
    rw [hTA, hUA, hTB, hUB] at q4
    have HT2 := hid (fun (w2 : World) (hb : Below w.heap.size w w2) => HT.out.mono hb HTL.out)
    have B10 : Hid ((∀ x ∈ T10, x < 18446744073709551616) ∧ (∀ x ∈ U10, x < 18446744073709551616) ∧ T10.length ≤ maxLen ∧ U10.length ≤ maxLen) := hid (by
      rw [← hT10, ← hU10]
      exact ⟨kleV_lt _ _ _ _ _ _ _, kleV_lt _ _ _ _ _ _ _, Nat.le_trans (kleV_len _ _ _ _ _ _ _) (by unfold maxLen; decide), Nat.le_trans (kleV_len _ _ _ _ _ _ _) (by unfold maxLen; decide)⟩)
    have BA : Hid ((∀ x ∈ TA, x < 18446744073709551616) ∧ (∀ x ∈ UA, x < 18446744073709551616) ∧ TA.length ≤ maxLen ∧ UA.length ≤ maxLen) := hid (by
      rw [← hTA, ← hUA]
      exact ⟨kleV_lt _ _ _ _ _ _ _, kleV_lt _ _ _ _ _ _ _, Nat.le_trans (kleV_len _ _ _ _ _ _ _) (by unfold maxLen; decide), Nat.le_trans (kleV_len _ _ _ _ _ _ _) (by unfold maxLen; decide)⟩)
    have BB : Hid ((∀ x ∈ TB, x < 18446744073709551616) ∧ (∀ x ∈ UB, x < 18446744073709551616) ∧ TB.length ≤ maxLen ∧ UB.length ≤ maxLen) := hid (by
      rw [← hTB, ← hUB]
      exact ⟨kleV_lt _ _ _ _ _ _ _, kleV_lt _ _ _ _ _ _ _, Nat.le_trans (kleV_len _ _ _ _ _ _ _) (by unfold maxLen; decide), Nat.le_trans (kleV_len _ _ _ _ _ _ _) (by unfold maxLen; decide)⟩)
    have BL : Hid (TL.length ≤ maxLen ∧ UL.length ≤ maxLen) := hid (by
      rw [← hTL, ← hUL]
      exact ⟨Nat.le_trans (kleV_len _ _ _ _ _ _ _) (by unfold maxLen; decide), Nat.le_trans (kleV_len _ _ _ _ _ _ _) (by unfold maxLen; decide)⟩)
    have hz : ([] : List Nat).length ≤ maxLen := Nat.zero_le _
    have hzv : ∀ x ∈ ([] : List Nat), x < 18446744073709551616 := fun x h => by cases h
    have HK18 := hid (Kleene_any 12 n _ _ _ _ T10 U10 [] [] w17 (HT2.out _ HBW17.out) RTp17.out RUp17.out rd_nil rd_nil B10.out.1 B10.out.2.1 hzv hzv B10.out.2.2.1 B10.out.2.2.2 hz hz)
    have HK19 := hid (fun (w2 : World) (hb : Below w.heap.size w w2) => Kleene_any 12 n _ _ _ _ aT aU [] [] w2 (HT2.out _ hb) (H1.out.mono hb) (H2.out.mono hb) rd_nil rd_nil V1.out V2.out hzv hzv M1.out.1 M1.out.2.1 hz hz)
    have HK20 := hid (fun (w2 : World) (hb : Below w.heap.size w w2) => Kleene_any 12 n _ _ _ _ bT bU [] [] w2 (HT2.out _ hb) (H3.out.mono hb) (H4.out.mono hb) rd_nil rd_nil V3.out V4.out hzv hzv M1.out.2.2.1 M1.out.2.2.2 hz hz)
    have HK21 := hid (fun (w2 : World) (hb : Below w.heap.size w w2) (xv xu yv yu : Value) (g1 : Rd w2 xv TA.length 1 (u64s TA)) (g2 : Rd w2 xu UA.length 1 (u64s UA)) (g3 : Rd w2 yv TB.length 1 (u64s TB)) (g4 : Rd w2 yu UB.length 1 (u64s UB)) => Kleene_any 11 n xv xu yv yu TA UA TB UB w2 (HT2.out _ hb) g1 g2 g3 g4 BA.out.1 BA.out.2.1 BB.out.1 BB.out.2.1 BA.out.2.2.1 BA.out.2.2.2 BB.out.2.2.1 BB.out.2.2.2)
    unfold KleeneSays at HK18 HK19 HK20 HK21
    rw [q3, hTL, hUL] at HK18
    rw [q1, hTA, hUA] at HK19
    rw [q2, hTB, hUB] at HK20
    rw [q4, ← qT, ← qU] at HK21
    clear q1 q2 q3 q4 q5 qT qU hTL hUL hTA hUA hTB hUB hT10 hU10 hKA hz hzv HKL HKR H1 H2 H3 H4 V1 V2 V3 V4 M1 HLE HT HT2 B10 BA BB
    obtain ⟨p0, p1⟩ := cell2 HRp17.out
    go_upto_region 15 with (go_at_call 7; refine HK18.out.mono ?_; rintro e wz ⟨tv, uv, rfl, ho1, ho2, _, hbz⟩; have HO1 := hid ho1; have HO2 := hid ho2; have HBZ := hid hbz; obtain ⟨AlT, clT, rfl, _, _, _, _⟩ := owns_form ho1; obtain ⟨AlU, clU, rfl, _, _, _, _⟩ := owns_form ho2; clear ho1 ho2 hbz)
    obtain ⟨hbn, hrn, nal⟩ := boxed (tv := .slice AlT TL.length clT) (uv := .slice AlU UL.length clU) (e := 24) HBZ.out
    have HRA18 := hid (HRA17.out.mono hbn)
    have HRB18 := hid (HRB17.out.mono hbn)
    have HRl18 := hid hrn
    have RTl18 := hid ((owns_rd HO1.out).mono nal)
    have RUl18 := hid ((owns_rd HO2.out).mono nal)
    have HBW18 := hid (Below.then' HBW17.out hbn HBW17.out.size)
    clear hbn hrn nal HO1 HO2 HBZ HK18
    generalize wz.alloc (.cells #[.slice AlT TL.length clT, .slice AlU UL.length clU] 24) = w18 at *
    generalize wz.heap.size = gl at *
    clear HRA17 HRB17 HBW17
    clear p0 p1 HRp17 RTp17 RUp17
    obtain ⟨a0, a1⟩ := cell2 HRA18.out
    go_upto_region 16 with (go_at_call 7; refine (HK19.out _ HBW18.out).mono ?_; rintro e wz ⟨tv, uv, rfl, ho1, ho2, _, hbz⟩; have HO1 := hid ho1; have HO2 := hid ho2; have HBZ := hid hbz; obtain ⟨AaT, caT, rfl, _, _, _, _⟩ := owns_form ho1; obtain ⟨AaU, caU, rfl, _, _, _, _⟩ := owns_form ho2; clear ho1 ho2 hbz)
    obtain ⟨hbn, hrn, nal⟩ := boxed (tv := .slice AaT TA.length caT) (uv := .slice AaU UA.length caU) (e := 24) HBZ.out
    have HRB19 := hid (HRB18.out.mono hbn)
    have HRl19 := hid (HRl18.out.mono hbn)
    have RTl19 := hid (RTl18.out.mono hbn)
    have RUl19 := hid (RUl18.out.mono hbn)
    have HRa19 := hid hrn
    have RTa19 := hid ((owns_rd HO1.out).mono nal)
    have RUa19 := hid ((owns_rd HO2.out).mono nal)
    have HBW19 := hid (Below.then' HBW18.out hbn HBW18.out.size)
    clear hbn hrn nal HO1 HO2 HBZ HK19
    generalize wz.alloc (.cells #[.slice AaT TA.length caT, .slice AaU UA.length caU] 24) = w19 at *
    generalize wz.heap.size = ga at *
    clear HRB18 HRl18 RTl18 RUl18 HBW18
    clear a0 a1 HRA18
    obtain ⟨b0, b1⟩ := cell2 HRB19.out
    go_upto_region 17 with (go_at_call 7; refine (HK20.out _ HBW19.out).mono ?_; rintro e wz ⟨tv, uv, rfl, ho1, ho2, _, hbz⟩; have HO1 := hid ho1; have HO2 := hid ho2; have HBZ := hid hbz; obtain ⟨AbT, cbT, rfl, _, _, _, _⟩ := owns_form ho1; obtain ⟨AbU, cbU, rfl, _, _, _, _⟩ := owns_form ho2; clear ho1 ho2 hbz)
    obtain ⟨hbn, hrn, nal⟩ := boxed (tv := .slice AbT TB.length cbT) (uv := .slice AbU UB.length cbU) (e := 24) HBZ.out
    have HRl20 := hid (HRl19.out.mono hbn)
    have HRa20 := hid (HRa19.out.mono hbn)
    have RTl20 := hid (RTl19.out.mono hbn)
    have RUl20 := hid (RUl19.out.mono hbn)
    have RTa20 := hid (RTa19.out.mono hbn)
    have RUa20 := hid (RUa19.out.mono hbn)
    have HRb20 := hid hrn
    have RTb20 := hid ((owns_rd HO1.out).mono nal)
    have RUb20 := hid ((owns_rd HO2.out).mono nal)
    have HBW20 := hid (Below.then' HBW19.out hbn HBW19.out.size)
    clear hbn hrn nal HO1 HO2 HBZ HK20
    generalize wz.alloc (.cells #[.slice AbT TB.length cbT, .slice AbU UB.length cbU] 24) = w20 at *
    generalize wz.heap.size = gb at *
    clear HRl19 HRa19 RTl19 RUl19 RTa19 RUa19 HBW19
    clear b0 b1 HRB19
    obtain ⟨a0, a1⟩ := cell2 HRa20.out
    obtain ⟨b0, b1⟩ := cell2 HRb20.out
    go_upto_region 18 with (go_at_call 7; refine (HK21.out _ HBW20.out _ _ _ _ RTa20.out RUa20.out RTb20.out RUb20.out).mono ?_; rintro e wz ⟨tv, uv, rfl, ho1, ho2, _, hbz⟩; have HO1 := hid ho1; have HO2 := hid ho2; have HBZ := hid hbz; obtain ⟨ArT, crT, rfl, _, _, _, _⟩ := owns_form ho1; obtain ⟨ArU, crU, rfl, _, _, _, _⟩ := owns_form ho2; clear ho1 ho2 hbz)
    obtain ⟨hbn, hrn, nal⟩ := boxed (tv := .slice ArT TL.length crT) (uv := .slice ArU UL.length crU) (e := 24) HBZ.out
    have HRl21 := hid (HRl20.out.mono hbn)
    have RTl21 := hid (RTl20.out.mono hbn)
    have RUl21 := hid (RUl20.out.mono hbn)
    have HRr21 := hid hrn
    have RTr21 := hid ((owns_rd HO1.out).mono nal)
    have RUr21 := hid ((owns_rd HO2.out).mono nal)
    have HBW21 := hid (Below.then' HBW20.out hbn HBW20.out.size)
    clear hbn hrn nal HO1 HO2 HBZ HK21
    generalize wz.alloc (.cells #[.slice ArT TL.length crT, .slice ArU UL.length crU] 24) = w21 at *
    generalize wz.heap.size = gr at *
    clear HRl20 RTl20 RUl20 HBW20
    clear a0 a1 b0 b1
    obtain ⟨a0, a1⟩ := cell2 HRl21.out
    obtain ⟨b0, b1⟩ := cell2 HRr21.out
    have HSP := hid (samePair_any _ _ _ _ _ _ TL UL w21 rfl rfl RTl21.out RUl21.out RTr21.out RUr21.out BL.out.1 BL.out.2)
    go_wp2_with (go_at_call 9; refine HSP.out.mono ?_; rintro e w22 ⟨rfl, hb22⟩)
    go_ret
    exact ⟨rfl, Below.then' HBW21.out hb22 HBW21.out.size⟩
end Go.Proofs.YtinkbgnhigpkeaaDoor
