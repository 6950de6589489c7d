/- Package scan: pairs of bitmaps; new ones. -/
import Derived.Test.YtinkbgnhigpkeaaDoorOwn
import Derived.Test.YtinkbgnhigpkeaaDoorCmpc
import Derived.Test.YtinkbgnhigpkeaaDoorRank
import Derived.Test.YtinkbgnhigpkeaaDoorRefi
import Derived.Deep.RegionHeld3
import Derived.Deep.CutRange
set_option linter.unusedVariables false
set_option linter.unusedSimpArgs false
set_option linter.unnecessarySimpa false
set_option maxRecDepth 20000
namespace Go.Proofs.YtinkbgnhigpkeaaDoor
open Go.RowKit

theorem zeros_row {w : World} {g : Nat} {e : TypeId} {k : Nat} (h : Row w g e (List.replicate k (.int .u64 0))) : Row w g e (u64s (List.replicate k 0)) := by
  have e : u64s (List.replicate k 0) = List.replicate k (.int .u64 0) := by simp [u64s, u64]
  rw [e]; exact h
theorem make_fact (k : Nat) (hk : k ≤ 65536) : ∃ C : Array Value, C.toList = List.replicate k (.int .u64 0) ∧ ∀ w2 : World, Sem.run Tryd.prog (Instr.makeSlice 22 (.int .i64 (k : Int)) (.int .i64 (k : Int))) w2 = .ok (.slice (some ⟨w2.heap.size, 0, none⟩) k k) (w2.alloc (.cells C 55)) := by
  obtain ⟨i, hi, hz0, hz1, hz2⟩ := info_parts Tryd.info45
  refine ⟨madeCells #[.int .u64 0] (k * 1), toList_madeCells _ _, fun w2 => ?_⟩
  have hr := run_make (P := Tryd.prog) w2 22 55 i _ Tryd.underlying22 hi hz0 .i64 .i64 k k (by omega) (Int.le_refl _) (by rw [hz2]; omega) (by omega)
  simp only [Int.toNat_natCast, hz1] at hr
  exact hr
theorem rows2d {u : World} {X Y : Array Value} {eX eY : TypeId} : Row ((u.alloc (.cells X eX)).alloc (.cells Y eY)) u.heap.size eX X.toList ∧ Row ((u.alloc (.cells X eX)).alloc (.cells Y eY)) (u.heap.size + 1) eY Y.toList ∧ Below u.heap.size u ((u.alloc (.cells X eX)).alloc (.cells Y eY)) := by
  have nw : ∀ (u : World) (D : Array Value) (e : TypeId), Row (u.alloc (.cells D e)) u.heap.size e D.toList := fun u D e => by unfold Row; rw [heap_alloc_new]
  have sz : ∀ (u : World) (o : Obj), (u.alloc o).heap.size = u.heap.size + 1 := fun u o => by simp
  have bl : ∀ (u : World) (o : Obj), Below u.heap.size u (u.alloc o) := fun u o => (Below.refl _ _).alloc (Nat.le_refl _) _
  have r2 := nw (u.alloc (.cells X eX)) Y eY
  rw [sz] at r2
  exact ⟨(nw u X eX).mono (bl _ _), r2, Below.then' (bl _ _) (bl _ _) (by simp)⟩
set_option maxHeartbeats 1000000 in
theorem newPair_any (k : Nat) (w : World) (hk : k ≤ 65536) : Calls Tryd.prog 46 #[.int .i64 k] w fun e w' => ∃ g h, e = .returned (.agg #[.slice (some ⟨g, 0, none⟩) k k, .slice (some ⟨h, 0, none⟩) k k]) ∧ g ≠ h ∧ w.heap.size ≤ g ∧ w.heap.size ≤ h ∧
    Row w' g 55 (u64s (List.replicate k 0)) ∧ Row w' h 55 (u64s (List.replicate k 0)) ∧ Below w.heap.size w w' := by
  obtain ⟨C, hC, hmk⟩ := make_fact k hk
  have HC := hid hC
  clear hC
  go_enter Tryd.func46, Tryd.ntmps46
  go_wp2_with fail
  have HF : Hid (∀ c1 c2 : Value, Row ((((w.alloc (.cells #[c1, c2] 24)).alloc (.cells C 55)).alloc (.cells C 55)).drew) (w.heap.size + 1) 55 (u64s (List.replicate k 0)) ∧ Row ((((w.alloc (.cells #[c1, c2] 24)).alloc (.cells C 55)).alloc (.cells C 55)).drew) (w.heap.size + 1 + 1) 55 (u64s (List.replicate k 0)) ∧ Below w.heap.size w ((((w.alloc (.cells #[c1, c2] 24)).alloc (.cells C 55)).alloc (.cells C 55)).drew)) := hid (fun c1 c2 => by
    obtain ⟨r1, r2, bl⟩ := rows2d (u := w.alloc (.cells #[c1, c2] 24)) (X := C) (Y := C) (eX := 55) (eY := 55)
    have hz : (w.alloc (.cells #[c1, c2] 24)).heap.size = w.heap.size + 1 := by simp
    rw [hz] at r1 r2 bl
    rw [HC.out] at r1 r2
    exact ⟨zeros_row r1, zeros_row r2, bdrew (Below.trans ((brefl w).alloc (Nat.le_refl _) _) (bl.mono (show w.heap.size ≤ w.heap.size + 1 by omega))) 1⟩)
  go_region
  all_goals go_wp2_with fail
  · refine bodyPost_ret (v := .agg #[.slice (some ⟨w.heap.size + 1, 0, none⟩) k k, .slice (some ⟨w.heap.size + 1 + 1, 0, none⟩) k k]) ?_ rfl ⟨w.heap.size + 1, w.heap.size + 1 + 1, rfl, by omega, by omega, by omega, (HF.out _ _).1, (HF.out _ _).2.1, (HF.out _ _).2.2⟩
    simp [results, Tryd.results46, go_sem]
  · refine bodyPost_ret (v := .agg #[.slice (some ⟨w.heap.size + 1 + 1, 0, none⟩) k k, .slice (some ⟨w.heap.size + 1, 0, none⟩) k k]) ?_ rfl ⟨w.heap.size + 1 + 1, w.heap.size + 1, rfl, by omega, by omega, by omega, (HF.out _ _).2.1, (HF.out _ _).1, (HF.out _ _).2.2⟩
    simp [results, Tryd.results46, go_sem]
def disjW (T U : List Nat) : Bool := (List.range T.length).all fun k => decide (T.getD k 0 &&& U.getD k 0 = 0)
def prOk (n : Int) (T U : List Nat) : Bool := okPack 1 n T && okPack 1 n U && disjW T U
theorem rankR_neg (n : Int) (xs : List Nat) : decide (rankR n n xs < 0) = !okPack 1 n xs := by
  unfold rankR
  cases h : okPack 1 n xs
  · simp
  · have : 0 ≤ n := by
      rcases Int.lt_or_le n 0 with h' | h'
      · rw [okPack_not _ (by omega)] at h; cases h
      · exact h'
    simp [this]
set_option maxHeartbeats 2000000 in
theorem isPair_any (tv uv : Value) (T U : List Nat) (n : Int) (w : World) (hT : Rd w tv T.length 1 (u64s T)) (hU : Rd w uv U.length 1 (u64s U)) (hTv : ∀ x ∈ T, x < 18446744073709551616) (hUv : ∀ x ∈ U, x < 18446744073709551616) (hTl : T.length ≤ maxLen) (hUl : U.length ≤ maxLen) :
    Calls Tryd.prog 26 #[.int .i64 n, .agg #[tv, uv]] w fun e w' => e = .returned (.bool (prOk n T U)) ∧ Below w.heap.size w w' := by
  have HRT := hid (fun w2 : World => fun hb : Below w.heap.size w w2 => Rank_any tv T n n w2 (hT.mono hb) hTv hTl)
  have HRU := hid (fun w2 : World => fun hb : Below w.heap.size w w2 => Rank_any uv U n n w2 (hU.mono hb) hUv hUl)
  have HTV := hid hTv; have HUV := hid hUv
  have h1 := rankR_neg n T
  have h2 := rankR_neg n U
  generalize rankR n n T = rt at *
  generalize rankR n n U = ru at *
  obtain ⟨R, hR⟩ : ∃ R, prOk n T U = R := ⟨_, rfl⟩
  rw [hR]
  unfold prOk at hR
  obtain ⟨q, hq⟩ : ∃ q, T.length = q := ⟨_, rfl⟩
  obtain ⟨p, hp⟩ : ∃ p, U.length = p := ⟨_, rfl⟩
  have HQ := hid hq; have HP := hid hp
  have HLN : Hid (okPack 1 n T = true → okPack 1 n U = true → p = q ∧ q ≤ 65536) := hid (fun a b => by
    have hn : 0 ≤ n ∧ n ≤ 65536 := by
      rcases Classical.em (0 ≤ (1 : Int) ∧ (1 : Int) ≤ 64 ∧ 0 ≤ n ∧ n ≤ 65536) with h | h
      · exact ⟨h.2.2.1, h.2.2.2⟩
      · rw [okPack_not _ h] at a; cases a
    obtain ⟨m, rfl⟩ := Int.eq_ofNat_of_zero_le hn.1
    have e1 := ((okPack_nat (wd := 1) (n := m) T (by decide) (by omega)).1 a).1
    have e2 := ((okPack_nat (wd := 1) (n := m) U (by decide) (by omega)).1 b).1
    rw [nWords1] at e1 e2; omega)
  generalize okPack 1 n T = ot at *
  generalize okPack 1 n U = ou at *
  rw [hq] at hT hTl
  rw [hp] at hU hUl
  have HT := hid hT; have HU := hid hU
  obtain ⟨A, ca, rfl, hca1, hca2, _⟩ := hT.form
  obtain ⟨B, cb, rfl, hcb1, hcb2, _⟩ := hU.form
  clear hT hU hTv hUv hq hp
  unfold maxLen at hTl hUl
  have HB0 : Hid (∀ o, Below w.heap.size w (w.alloc o)) := hid (fun o => (brefl w).alloc (Nat.le_refl _) _)
  have HK : Hid (∀ (w1 : World) (nd : Nat), w1 = (w.alloc (.cells #[.slice A q ca, .slice B p cb] 24)).drewN nd → Row w1 w.heap.size 24 [.slice A q ca, .slice B p cb] ∧ Below w.heap.size w w1) := hid (fun w1 nd e => by
    subst e
    exact ⟨(show Row (w.alloc (.cells #[.slice A q ca, .slice B p cb] 24)) w.heap.size 24 [.slice A q ca, .slice B p cb] from by unfold Row; rw [heap_alloc_new]), bdrew ((brefl w).alloc (Nat.le_refl _) _) nd⟩)
  go_enter Tryd.func26, Tryd.ntmps26
  cases ot
  · have hr0 : R = false := by rw [← hR]; rfl
    subst hr0
    simp only [Bool.not_false, decide_eq_true_eq] at h1
    go_wp2_with (go_at_call 14; refine (HRT.out _ (HB0.out _)).mono ?_; rintro e w1 ⟨rfl, nd, rfl⟩)
    go_ret
    exact ⟨rfl, bdrew (HB0.out _) nd⟩
  simp only [Bool.not_true, decide_eq_false_iff_not] at h1
  cases ou
  · have hr0 : R = false := by rw [← hR]; rfl
    subst hr0
    simp only [Bool.not_false, decide_eq_true_eq] at h2
    go_wp2_with (first
      | (go_at_call_of 14 (Value.slice A q ca); refine (HRT.out _ (HB0.out _)).mono ?_; rintro e w1 ⟨rfl, nd, hw⟩; obtain ⟨hrow, hbel⟩ := HK.out w1 nd hw; have k0 : w1.cell? ⟨w.heap.size, 0, none⟩ = some (.slice A q ca) := (by rw [hrow.cell]; rfl); have k1 : w1.cell? ⟨w.heap.size, 1, none⟩ = some (.slice B p cb) := (by rw [hrow.cell]; rfl); have HBL := hid hbel; clear hrow hbel hw)
      | (go_at_call 14; refine (HRU.out _ HBL.out).mono ?_; rintro e w2 ⟨rfl, nd2, rfl⟩))
    go_ret
    exact ⟨rfl, bdrew HBL.out nd2⟩
  simp only [Bool.not_true, decide_eq_false_iff_not] at h2
  obtain ⟨hlen, hle⟩ := HLN.out rfl rfl
  subst hlen
  simp only [Bool.true_and] at hR
  have HR := hid hR
  clear HLN hR
  go_wp2_with (first
      | (go_at_call_of 14 (Value.slice A p ca); refine (HRT.out _ (HB0.out _)).mono ?_; rintro e w1 ⟨rfl, nd, hw⟩; obtain ⟨hrow, hbel⟩ := HK.out w1 nd hw; have k0 : w1.cell? ⟨w.heap.size, 0, none⟩ = some (.slice A p ca) := (by rw [hrow.cell]; rfl); have k1 : w1.cell? ⟨w.heap.size, 1, none⟩ = some (.slice B p cb) := (by rw [hrow.cell]; rfl); have HBL := hid hbel; have HRW := hid hrow; clear hrow hbel hw)
      | (go_at_call 14; refine (HRU.out _ HBL.out).mono ?_; rintro e w2 ⟨rfl, nd2, rfl⟩))
  have HBL2 : Hid (Below w.heap.size w (w1.drewN nd2)) := hid (bdrew HBL.out nd2)
  have HRW2 : Hid (Row (w1.drewN nd2) w.heap.size 24 [.slice A p ca, .slice B p cb]) := HRW
  clear HBL HRW k0 k1
  generalize w1.drewN nd2 = wx at *
  go_loop [24] (fun i => ∃ t : Nat, t ≤ p ∧ i = .int .i64 t ∧ ∀ u, u < t → T.getD u 0 &&& U.getD u 0 = 0) (fun i => p - (intOf i).toNat)
  case atStart => exact ⟨0, by omega, rfl, fun u h => absurd h (Nat.not_lt_zero u)⟩
  case round =>
    obtain ⟨t, ht, rfl, hall⟩ := hrel
    have HALL := hid hall
    clear hall
    by_cases hlt : t < p
    · have k0 : wx.cell? ⟨w.heap.size, 0, none⟩ = some (.slice A p ca) := by rw [HRW2.out.cell]; rfl
      have k1 : wx.cell? ⟨w.heap.size, 1, none⟩ = some (.slice B p cb) := by rw [HRW2.out.cell]; rfl
      obtain ⟨b, o, rfl, hs⟩ := (HT.out.mono HBL2.out).at (by omega)
      obtain ⟨b', o', rfl, hs'⟩ := (HU.out.mono HBL2.out).at (by omega)
      have c1 := hs.word t (by rw [HQ.out]; exact hlt)
      have c2 := hs'.word t (by rw [HP.out]; exact hlt)
      have hx1 : T.getD t 0 < 18446744073709551616 := L.getD_lt (w := 64) (fun a ha => by have := HTV.out a ha; omega) t
      have hx2 : U.getD t 0 < 18446744073709551616 := L.getD_lt (w := 64) (fun a ha => by have := HUV.out a ha; omega) t
      have hand := u64_and_nat (T.getD t 0) (U.getD t 0) hx1 hx2
      have HY : Hid (T.getD t 0 &&& U.getD t 0 = 0 → ∀ u, u < t + 1 → T.getD u 0 &&& U.getD u 0 = 0) := hid (fun h u hu => by
        by_cases hut : u = t
        · subst hut; exact h
        · exact HALL.out u (by omega))
      have HN : Hid (¬ T.getD t 0 &&& U.getD t 0 = 0 → R = false) := hid (fun h => by
        rw [← HR.out, ← Bool.not_eq_true]
        intro hp
        simp only [disjW, List.all_eq_true, List.mem_range, decide_eq_true_eq] at hp
        exact h (hp t (by rw [HQ.out]; exact hlt)))
      clear hs hs'
      generalize T.getD t 0 = x at *
      generalize U.getD t 0 = y at *
      generalize x &&& y = z at *
      by_cases hz : z = 0
      · have HY2 := hid (HY.out hz)
        have hzb : ((z : Int) != 0) = false := by simp [hz]
        clear HY HN hz
        go_wp2_with fail
        go_round
        case rel => exact ⟨t + 1, by omega, by go_num, HY2.out⟩
        case measure => simp [intOf]; omega
      · have HN2 := hid (HN.out hz)
        have hzb : ((z : Int) != 0) = true := by simp; omega
        clear HY HN
        go_wp2_with fail
        go_ret
        exact ⟨ret_bool HN2.out.symm, HBL2.out⟩
    · obtain rfl : t = p := by omega
      have HT2 : Hid (R = true) := hid (by
        rw [← HR.out]
        simp only [disjW, List.all_eq_true, List.mem_range, decide_eq_true_eq]
        intro u hu
        exact HALL.out u (by rw [← HQ.out]; exact hu))
      go_wp2_with fail
      go_ret
      exact ⟨ret_bool HT2.out.symm, HBL2.out⟩
end Go.Proofs.YtinkbgnhigpkeaaDoor
