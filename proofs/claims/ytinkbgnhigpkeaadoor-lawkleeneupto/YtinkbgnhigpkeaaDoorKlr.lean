/- The document's Kleene: row by row. -/
import Derived.Test.YtinkbgnhigpkeaaDoorKlk
set_option linter.unusedVariables false
set_option linter.unusedSimpArgs false
set_option linter.unnecessarySimpa false
set_option maxRecDepth 20000
namespace Go.Proofs.YtinkbgnhigpkeaaDoor
open Go.RowKit

theorem disj_of_bits {m : Nat} {T U : List Nat} (hT : ∀ x ∈ T, x < 18446744073709551616) (hend : ∀ i, m ≤ i → bitOf T i = false) (h : ∀ i, i < m → (bitOf T i && bitOf U i) = false) : disjW T U = true := by
  simp only [disjW, List.all_eq_true, List.mem_range, decide_eq_true_eq]
  intro k hk
  apply Nat.eq_of_testBit_eq
  intro j
  rw [Nat.testBit_and, Nat.zero_testBit]
  by_cases hj : j < 64
  · have e1 : (T.getD k 0).testBit j = bitOf T (64 * k + j) := by
      unfold bitOf; rw [show (64 * k + j) / 64 = k by omega, show (64 * k + j) % 64 = j by omega]
    have e2 : (U.getD k 0).testBit j = bitOf U (64 * k + j) := by
      unfold bitOf; rw [show (64 * k + j) / 64 = k by omega, show (64 * k + j) % 64 = j by omega]
    rw [e1, e2]
    by_cases hi : 64 * k + j < m
    · exact h _ hi
    · rw [hend _ (by omega), Bool.false_and]
  · have h1 := getD_64 hT k
    have : (T.getD k 0).testBit j = false := Nat.testBit_lt_two_pow (Nat.lt_of_lt_of_le h1 (by
      have : 2 ^ 64 ≤ 2 ^ j := Nat.pow_le_pow_right (by omega) (by omega)
      omega))
    rw [this, Bool.false_and]
theorem box2 {w w1 : World} {a b : Value} {e : TypeId} {nd : Nat} (h : w1 = (w.alloc (.cells #[a, b] e)).drewN nd) : Row w1 w.heap.size e [a, b] ∧ Below w.heap.size w w1 := by
  subst h
  exact ⟨(show Row (w.alloc (.cells #[a, b] e)) w.heap.size e [a, b] from by unfold Row; rw [heap_alloc_new]), bdrew ((brefl w).alloc (Nat.le_refl _) _) nd⟩
set_option maxHeartbeats 2000000 in
theorem refIsPair_any (tv uv : Value) (T U : List Nat) (n : Int) (w : World) (hT : Rd w tv T.length 1 (u64s T)) (hU : Rd w uv U.length 1 (u64s U)) (hTv : ∀ x ∈ T, x < 18446744073709551616) (hUv : ∀ x ∈ U, x < 18446744073709551616) (hTl : T.length ≤ maxLen) (hUl : U.length ≤ maxLen) :
    Calls Tryd.prog 30 #[.agg #[tv, uv], .int .i64 n] w fun e w' => e = .returned (.bool (prOk n T U)) ∧ Below w.heap.size w w' := by
  have H1 := hid (fun (w2 : World) (hb : Below w.heap.size w w2) => refIsBitmap_any tv T n w2 (hT.mono hb) hTv hTl)
  have H2 := hid (fun (w2 : World) (hb : Below w.heap.size w w2) => refIsBitmap_any uv U n w2 (hU.mono hb) hUv hUl)
  have H3 := hid (fun (i : Nat) (hi : i ≤ 65536) (w2 : World) (hb : Below w.heap.size w w2) => bitAt_any tv T i w2 (hT.mono hb) hTv hTl (by omega))
  have H4 := hid (fun (i : Nat) (hi : i ≤ 65536) (w2 : World) (hb : Below w.heap.size w w2) => bitAt_any uv U i w2 (hU.mono hb) hUv hUl (by omega))
  have HTV := hid hTv
  obtain ⟨A, ca, rfl, _, _, _⟩ := hT.form
  obtain ⟨B, cb, rfl, _, _, _⟩ := hU.form
  obtain ⟨R, hR⟩ : ∃ R, prOk n T U = R := ⟨_, rfl⟩
  rw [hR]
  unfold prOk at hR
  have HR := hid hR
  obtain ⟨ro, hbo⟩ := box2 (w := w) (w1 := w.alloc (.cells #[.slice A T.length ca, .slice B U.length cb] 24)) (nd := 0) (a := .slice A T.length ca) (b := .slice B U.length cb) (e := 24) rfl
  have HRO := hid ro; have HBO := hid hbo
  obtain ⟨ot, hot⟩ : ∃ ot, okPack 1 n T = ot := ⟨_, rfl⟩
  obtain ⟨ou, hou⟩ : ∃ ou, okPack 1 n U = ou := ⟨_, rfl⟩
  rw [hot] at H1
  rw [hou] at H2
  rw [hot, hou] at hR
  have HOT := hid hot; have HOU := hid hou
  clear hot hou hT hU hTv hUv ro hbo
  go_enter Tryd.func30, Tryd.ntmps30
  go_upto_region 1 with fail
  generalize w.alloc (.cells #[.slice A T.length ca, .slice B U.length cb] 24) = w0 at *
  obtain ⟨k0, k1⟩ := cell2 HRO.out
  cases ot
  · obtain rfl : R = false := by rw [← hR]; rfl
    go_wp2_with (go_at_call 40; refine (H1.out _ HBO.out).mono ?_; rintro e w1 ⟨rfl, rfl⟩)
    go_ret
    exact ⟨rfl, HBO.out⟩
  cases ou
  · obtain rfl : R = false := by rw [← hR]; rfl
    go_wp2_with (first
      | (go_at_call_of 40 (Value.slice A T.length ca); refine (H1.out _ HBO.out).mono ?_; rintro e w1 ⟨rfl, rfl⟩)
      | (go_at_call 40; refine (H2.out _ HBO.out).mono ?_; rintro e w2 ⟨rfl, rfl⟩))
    go_ret
    exact ⟨rfl, HBO.out⟩
  have hn : 0 ≤ n ∧ n ≤ 65536 := by
    rcases Classical.em (0 ≤ (1 : Int) ∧ (1 : Int) ≤ 64 ∧ 0 ≤ n ∧ n ≤ 65536) with h | h
    · exact ⟨h.2.2.1, h.2.2.2⟩
    · have := HOT.out; rw [okPack_not _ h] at this; cases this
  obtain ⟨m, rfl⟩ := Int.eq_ofNat_of_zero_le hn.1
  have hm : m ≤ 65536 := by omega
  have HEND : Hid (∀ i, m ≤ i → bitOf T i = false) := hid (fun i hi => isPack_beyond ((okPack_nat (wd := 1) (n := m) T (by decide) (by omega)).1 HOT.out) i hi)
  clear hR hn
  go_wp2_with (first
      | (go_at_call_of 40 (Value.slice A T.length ca); refine (H1.out _ HBO.out).mono ?_; rintro e w1 ⟨rfl, rfl⟩)
      | (go_at_call 40; refine (H2.out _ HBO.out).mono ?_; rintro e w2 ⟨rfl, rfl⟩))
  go_loop [5] (fun i => ∃ t : Nat, t ≤ m ∧ i = .int .i64 t ∧ Hid (∀ u, u < t → (bitOf T u && bitOf U u) = false)) (fun i => m - (intOf i).toNat)
  case atStart => exact ⟨0, by omega, rfl, hid (fun u h => absurd h (Nat.not_lt_zero u))⟩
  case round =>
    obtain ⟨t, ht, rfl, HALL⟩ := hrel
    by_cases hlt : t < m
    · have H3t := hid (H3.out t (by omega) _ HBO.out)
      have H4t := hid (H4.out t (by omega) _ HBO.out)
      have HSTEP : Hid ((bitOf T t && bitOf U t) = false → ∀ u, u < t + 1 → (bitOf T u && bitOf U u) = false) := hid (fun h u hu => by
        by_cases hut : u = t
        · subst hut; exact h
        · exact HALL.out u (by omega))
      have HBAD : Hid ((bitOf T t && bitOf U t) = true → R = false) := hid (fun h => by
        rw [← HR.out, ← Bool.not_eq_true]
        intro hp
        simp only [Bool.and_eq_true] at hp
        have := disj_bits hp.2 t
        rw [h] at this; cases this)
      generalize bitOf T t = x at *
      generalize bitOf U t = y at *
      cases x
      · go_wp2_with (go_at_call 41; refine H3t.out.mono ?_; rintro e w2 ⟨rfl, rfl⟩)
        go_round
        case rel => exact ⟨t + 1, by omega, by go_num, hid (HSTEP.out rfl)⟩
        case measure => simp [intOf]; omega
      cases y
      · go_wp2_with (first
          | (go_at_call_of 41 (Value.slice A T.length ca); refine H3t.out.mono ?_; rintro e w2 ⟨rfl, rfl⟩)
          | (go_at_call 41; refine H4t.out.mono ?_; rintro e w2 ⟨rfl, rfl⟩))
        go_round
        case rel => exact ⟨t + 1, by omega, by go_num, hid (HSTEP.out rfl)⟩
        case measure => simp [intOf]; omega
      · obtain rfl : R = false := HBAD.out rfl
        go_wp2_with (first
          | (go_at_call_of 41 (Value.slice A T.length ca); refine H3t.out.mono ?_; rintro e w2 ⟨rfl, rfl⟩)
          | (go_at_call 41; refine H4t.out.mono ?_; rintro e w2 ⟨rfl, rfl⟩))
        go_ret
        exact ⟨rfl, HBO.out⟩
    · obtain rfl : t = m := by omega
      obtain rfl : R = true := by
        rw [← HR.out, HOT.out, HOU.out, disj_of_bits (U := U) HTV.out HEND.out HALL.out]
        rfl
      go_wp2_with fail
      go_ret
      exact ⟨rfl, HBO.out⟩
set_option maxHeartbeats 1000000 in
theorem truthAt_any (tv uv : Value) (T U : List Nat) (i : Nat) (hi : i ≤ 65536) (w : World) (hT : Rd w tv T.length 1 (u64s T)) (hU : Rd w uv U.length 1 (u64s U)) (hTv : ∀ x ∈ T, x < 18446744073709551616) (hUv : ∀ x ∈ U, x < 18446744073709551616) (hTl : T.length ≤ maxLen) (hUl : U.length ≤ maxLen) :
    Calls Tryd.prog 32 #[.agg #[tv, uv], .int .i64 i] w fun e w' => e = .returned (.int .i64 (trU T U i)) ∧ Below w.heap.size w w' := by
  have H3 := hid (fun (w2 : World) (hb : Below w.heap.size w w2) => bitAt_any tv T i w2 (hT.mono hb) hTv hTl (by omega))
  have H4 := hid (fun (w2 : World) (hb : Below w.heap.size w w2) => bitAt_any uv U i w2 (hU.mono hb) hUv hUl (by omega))
  obtain ⟨A, ca, rfl, _, _, _⟩ := hT.form
  obtain ⟨B, cb, rfl, _, _, _⟩ := hU.form
  obtain ⟨ro, hbo⟩ := box2 (w := w) (w1 := w.alloc (.cells #[.slice A T.length ca, .slice B U.length cb] 24)) (nd := 0) (a := .slice A T.length ca) (b := .slice B U.length cb) (e := 24) rfl
  have HRO := hid ro; have HBO := hid hbo
  unfold trU trB
  generalize bitOf T i = x at *
  generalize bitOf U i = y at *
  clear hT hU hTv hUv ro hbo
  go_enter Tryd.func32, Tryd.ntmps32
  go_upto_region 1 with fail
  generalize w.alloc (.cells #[.slice A T.length ca, .slice B U.length cb] 24) = w0 at *
  obtain ⟨k0, k1⟩ := cell2 HRO.out
  cases x
  · cases y
    · go_wp2_with (first
        | (go_at_call_of 41 (Value.slice A T.length ca); refine (H3.out _ HBO.out).mono ?_; rintro e w2 ⟨rfl, rfl⟩)
        | (go_at_call 41; refine (H4.out _ HBO.out).mono ?_; rintro e w2 ⟨rfl, rfl⟩))
      go_ret
      exact ⟨rfl, HBO.out⟩
    · go_wp2_with (first
        | (go_at_call_of 41 (Value.slice A T.length ca); refine (H3.out _ HBO.out).mono ?_; rintro e w2 ⟨rfl, rfl⟩)
        | (go_at_call 41; refine (H4.out _ HBO.out).mono ?_; rintro e w2 ⟨rfl, rfl⟩))
      go_ret
      exact ⟨rfl, HBO.out⟩
  · go_wp2_with (go_at_call 41; refine (H3.out _ HBO.out).mono ?_; rintro e w2 ⟨rfl, rfl⟩)
    go_ret
    exact ⟨rfl, HBO.out⟩
theorem trU_range (T U : List Nat) (i : Nat) : 0 ≤ trU T U i ∧ trU T U i ≤ 2 := by
  unfold trU trB; split
  · omega
  · split <;> omega
theorem joinN (x y : Int) : joinI 12 x y = 2 - x := by unfold joinI; rw [if_pos rfl]
theorem joinX {op x y : Int} (h12 : ¬ op = 12) (h : (op = 10 ∧ x < y) ∨ (op = 11 ∧ x > y)) : joinI op x y = x := by unfold joinI; rw [if_neg h12, if_pos h]
theorem joinY {op x y : Int} (h12 : ¬ op = 12) (h : ¬ ((op = 10 ∧ x < y) ∨ (op = 11 ∧ x > y))) : joinI op x y = y := by unfold joinI; rw [if_neg h12, if_neg h]
set_option maxHeartbeats 1000000 in
theorem join_any (op x y : Int) (w : World) (hx : 0 ≤ x ∧ x ≤ 2) (hy : 0 ≤ y ∧ y ≤ 2) : Calls Tryd.prog 31 #[.int .i64 op, .int .i64 x, .int .i64 y] w fun e w' => e = .returned (.int .i64 (joinI op x y)) ∧ w' = w := by
  obtain ⟨hx0, hx2⟩ := hx
  obtain ⟨hy0, hy2⟩ := hy
  by_cases h12 : op = 12
  · subst h12
    rw [joinN]
    go_enter Tryd.func31, Tryd.ntmps31
    go_wp2_with fail
    go_ret
    exact ⟨rfl, rfl⟩
  · have e12 : (op == 12) = false := by simp [h12]
    by_cases h10 : op = 10
    · subst h10
      by_cases hxy : x < y
      · rw [joinX h12 (.inl ⟨rfl, hxy⟩)]
        go_enter Tryd.func31, Tryd.ntmps31
        go_wp2_with fail
        go_ret
        exact ⟨rfl, rfl⟩
      · rw [joinY h12 (by omega)]
        go_enter Tryd.func31, Tryd.ntmps31
        go_wp2_with fail
        go_ret
        exact ⟨rfl, rfl⟩
    · have e10 : (op == 10) = false := by simp [h10]
      by_cases h11 : op = 11
      · subst h11
        by_cases hxy : x > y
        · rw [joinX h12 (.inr ⟨rfl, hxy⟩)]
          go_enter Tryd.func31, Tryd.ntmps31
          go_wp2_with fail
          go_ret
          exact ⟨rfl, rfl⟩
        · rw [joinY h12 (by omega)]
          go_enter Tryd.func31, Tryd.ntmps31
          go_wp2_with fail
          go_ret
          exact ⟨rfl, rfl⟩
      · have e11 : (op == 11) = false := by simp [h11]
        rw [joinY h12 (by omega)]
        go_enter Tryd.func31, Tryd.ntmps31
        go_wp2_with fail
        go_ret
        exact ⟨rfl, rfl⟩
end Go.Proofs.YtinkbgnhigpkeaaDoor
