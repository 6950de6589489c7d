/- Parts: Merge and Total, in the code and in the plain answer. -/
import Derived.Test.YtgobcaianpmbiabCel3
import Derived.Laws.Externs
import Derived.Laws.Cover1
set_option linter.unusedVariables false
set_option linter.unusedSimpArgs false
set_option linter.unnecessarySimpa false
set_option maxRecDepth 200000
namespace Go.Proofs.Ytgobcaianpmbiab
open Go.RowKit

def ltB (a b : ByteArray) : Bool := Op.bytesLess a.toList b.toList
def lessC (a b : C3) : Bool := decide (a.i < b.i) || (decide (a.i = b.i) && ltB a.s b.s)
set_option maxHeartbeats 1000000 in
theorem Less_C (a b : C3) (w : World) : Calls Try.prog 17 #[a.v, b.v] w fun e w' => e = .returned (.bool (lessC a b)) ∧ Below w.heap.size w w' := by
  obtain ⟨an, ai, sa⟩ := a
  obtain ⟨bn, bi, sb⟩ := b
  unfold C3.v lessC
  simp only
  obtain ⟨lt, hlt⟩ : ∃ lt, Op.bytesLess sa.toList sb.toList = lt := ⟨_, rfl⟩
  have hl : ltB sa sb = lt := hlt
  rw [hl]
  have hb : Below w.heap.size w ((w.alloc (.cells #[.bool an, .int .i64 ai, .string sa] 24)).alloc (.cells #[.bool bn, .int .i64 bi, .string sb] 24)) := ((brefl w).alloc (Nat.le_refl _) _).alloc (by simp) _
  have HB := hid hb
  clear hb hl
  go_enter Try.func17, Try.ntmps17
  by_cases h1 : ai < bi
  · go_wp2
    go_ret
    exact ⟨ret_bool (by simp [h1]), HB.out⟩
  · by_cases h2 : ai = bi
    · subst h2
      go_wp2
      go_ret
      exact ⟨ret_bool (by simp), HB.out⟩
    · go_wp2
      go_ret
      exact ⟨ret_bool (by simp [h1, h2]), HB.out⟩
/-- how two cells stand -/
def ordC (a b : C3) : Int := if a.i < b.i then -1 else if b.i < a.i then 1 else if ltB a.s b.s = true then -1 else if (!(ltB a.s b.s || (a.s.toList == b.s.toList))) = true then 1 else 0
theorem ordC_lt (a b : C3) : decide (ordC a b < 0) = lessC a b := by
  unfold ordC lessC
  by_cases h1 : a.i < b.i
  · simp [h1]
  · by_cases h2 : b.i < a.i
    · have : ¬ a.i = b.i := by omega
      simp [h1, h2, this]
    · have : a.i = b.i := by omega
      simp only [h1, h2, if_false, this, decide_true, Bool.true_and, decide_false, Bool.false_or]
      cases ltB a.s b.s
      · simp
        split <;> simp
      · simp
set_option maxHeartbeats 1000000 in
theorem order_C (a b : C3) (w : World) : Calls Try.prog 18 #[a.v, b.v] w fun e w' => e = .returned (.int .i64 (ordC a b)) ∧ Below w.heap.size w w' := by
  obtain ⟨an, ai, sa⟩ := a
  obtain ⟨bn, bi, sb⟩ := b
  unfold C3.v ordC
  simp only
  obtain ⟨lt, hlt⟩ : ∃ lt, Op.bytesLess sa.toList sb.toList = lt := ⟨_, rfl⟩
  obtain ⟨eq, heq⟩ : ∃ eq, (sa.toList == sb.toList) = eq := ⟨_, rfl⟩
  have hl : ltB sa sb = lt := hlt
  rw [hl, heq]
  have hb : Below w.heap.size w ((w.alloc (.cells #[.bool an, .int .i64 ai, .string sa] 24)).alloc (.cells #[.bool bn, .int .i64 bi, .string sb] 24)) := ((brefl w).alloc (Nat.le_refl _) _).alloc (by simp) _
  have HB := hid hb
  clear hb hl
  go_enter Try.func18, Try.ntmps18
  by_cases h1 : ai < bi
  · go_wp2
    go_ret
    exact ⟨by simp [h1], HB.out⟩
  · by_cases h2 : bi < ai
    · have h2' : ai > bi := h2
      go_wp2
      go_ret
      exact ⟨by simp [h1, h2], HB.out⟩
    · have h2' : ¬ ai > bi := h2
      have h3 : ai = bi := by omega
      subst h3
      cases lt
      · cases eq
        · go_wp2
          go_ret
          exact ⟨by simp, HB.out⟩
        · go_wp2
          go_ret
          exact ⟨by simp, HB.out⟩
      · go_wp2
        go_ret
        exact ⟨by simp, HB.out⟩
/-- what is told of the values of a column: how many, the sum's two words, the smallest and the greatest -/
structure P9 where
  ct : Int
  hi : Int
  lo : Nat
  mn : C3
  mx : C3
def P9.v (p : P9) : Value := .agg #[.int .i64 p.ct, .int .i64 p.hi, .int .u64 p.lo, .bool p.mn.n, .int .i64 p.mn.i, .string p.mn.s, .bool p.mx.n, .int .i64 p.mx.i, .string p.mx.s]
/-- the sum that a Part tells, and the code -/
def fitP (p : P9) : Bool := decide (p.hi * 18446744073709551616 + p.lo < 9223372036854775808 ∧ -9223372036854775808 ≤ p.hi * 18446744073709551616 + p.lo)
def totC (p : P9) : C3 := if p.ct = 0 then ⟨true, 0, ByteArray.empty⟩ else if fitP p = true then ⟨false, p.hi * 18446744073709551616 + p.lo, ByteArray.empty⟩ else ⟨false, 0, ByteArray.empty⟩
def totE (p : P9) : Int := if p.ct = 0 then 0 else if fitP p = true then 0 else 3
set_option maxHeartbeats 1000000 in
theorem Total_any (p : P9) (w : World) (hlo : p.lo < 18446744073709551616) (hhi : -9223372036854775808 ≤ p.hi ∧ p.hi < 9223372036854775808) : Calls Try.prog 7 #[p.v] w fun e w' => e = .returned (.tuple #[(totC p).v, .int .i64 (totE p)]) ∧ Below w.heap.size w w' := by
  have HF : Hid (fitP p = true → (p.hi != wrap64 (p.lo : Int) / 9223372036854775808) = false ∧ wrap64 (p.lo : Int) = p.hi * 18446744073709551616 + p.lo) := hid (fun h => by
    unfold fitP at h; simp only [decide_eq_true_eq] at h; unfold wrap64; simp only [bne_eq_false_iff_eq]; omega)
  have HN : Hid (¬ fitP p = true → (p.hi != wrap64 (p.lo : Int) / 9223372036854775808) = true) := hid (fun h => by
    unfold fitP at h; simp only [decide_eq_true_eq] at h; unfold wrap64; simp only [bne_iff_ne, ne_eq]; omega)
  have HTC : Hid (totC p = if p.ct = 0 then ⟨true, 0, ByteArray.empty⟩ else if fitP p = true then ⟨false, p.hi * 18446744073709551616 + p.lo, ByteArray.empty⟩ else ⟨false, 0, ByteArray.empty⟩) := hid rfl
  have HTE : Hid (totE p = if p.ct = 0 then 0 else if fitP p = true then 0 else 3) := hid rfl
  generalize totC p = tc at *
  generalize totE p = te at *
  by_cases hfit : fitP p = true
  · obtain ⟨hf1, hf2⟩ := HF.out hfit
    rw [if_pos hfit] at HTC HTE
    clear HF HN hfit
    obtain ⟨ct, hi, lo, ⟨mnn, mni, mns⟩, ⟨mxn, mxi, mxs⟩⟩ := p
    unfold P9.v
    simp only at *
    generalize hsm : hi * 18446744073709551616 + (lo : Int) = sm at *
    by_cases h0 : ct = 0
    · rw [if_pos h0] at HTC HTE
      rw [HTC.out, HTE.out]
      unfold C3.v
      go_enter Try.func7, Try.ntmps7
      go_wp2
      refine bodyPost_ret (v := .tuple #[.agg #[.bool true, .int .i64 0, .string ByteArray.empty], .int .i64 0]) ?_ rfl ⟨rfl, ?_⟩
      · simp [results, Try.results7, go_sem]
        rfl
      · exact ((brefl w).alloc (Nat.le_refl _) _).alloc (by simp) _
    · rw [if_neg h0] at HTC HTE
      rw [HTC.out, HTE.out]
      unfold C3.v
      go_enter Try.func7, Try.ntmps7
      go_wp2
      refine bodyPost_ret (v := .tuple #[.agg #[.bool false, .int .i64 sm, .string ByteArray.empty], .int .i64 0]) ?_ rfl ⟨rfl, ?_⟩
      · simp [results, Try.results7, go_sem]
        rfl
      · exact ((brefl w).alloc (Nat.le_refl _) _).alloc (by simp) _
  · have hf1 := HN.out hfit
    rw [if_neg hfit] at HTC HTE
    clear HF HN hfit
    obtain ⟨ct, hi, lo, ⟨mnn, mni, mns⟩, ⟨mxn, mxi, mxs⟩⟩ := p
    unfold P9.v
    simp only at *
    by_cases h0 : ct = 0
    · rw [if_pos h0] at HTC HTE
      rw [HTC.out, HTE.out]
      unfold C3.v
      go_enter Try.func7, Try.ntmps7
      go_wp2
      refine bodyPost_ret (v := .tuple #[.agg #[.bool true, .int .i64 0, .string ByteArray.empty], .int .i64 0]) ?_ rfl ⟨rfl, ?_⟩
      · simp [results, Try.results7, go_sem]
        rfl
      · exact ((brefl w).alloc (Nat.le_refl _) _).alloc (by simp) _
    · rw [if_neg h0] at HTC HTE
      rw [HTC.out, HTE.out]
      unfold C3.v
      go_enter Try.func7, Try.ntmps7
      go_wp2
      refine bodyPost_ret (v := .tuple #[.agg #[.bool false, .int .i64 0, .string ByteArray.empty], .int .i64 3]) ?_ rfl ⟨rfl, ?_⟩
      · simp [results, Try.results7, go_sem]
        rfl
      · exact ((brefl w).alloc (Nat.le_refl _) _).alloc (by simp) _
set_option maxHeartbeats 1000000 in
theorem refTotal_any (p : P9) (w : World) (hlo : p.lo < 18446744073709551616) (hhi : -9223372036854775808 ≤ p.hi ∧ p.hi < 9223372036854775808) : Calls Try.prog 8 #[p.v] w fun e w' => e = .returned (.tuple #[(totC p).v, .int .i64 (totE p)]) ∧ Below w.heap.size w w' := by
  have HF : Hid (fitP p = true → (p.hi = 0 ∧ (p.lo : Int) < 9223372036854775808 ∨ p.hi = -1 ∧ ¬ (p.lo : Int) < 9223372036854775808) ∧ wrap64 (p.lo : Int) = p.hi * 18446744073709551616 + p.lo) := hid (fun h => by
    unfold fitP at h; simp only [decide_eq_true_eq] at h; unfold wrap64; omega)
  have HN : Hid (¬ fitP p = true → ¬ (p.hi = 0 ∧ (p.lo : Int) < 9223372036854775808) ∧ ¬ (p.hi = -1 ∧ ¬ (p.lo : Int) < 9223372036854775808)) := hid (fun h => by
    unfold fitP at h; simp only [decide_eq_true_eq] at h; omega)
  have HTC : Hid (totC p = if p.ct = 0 then ⟨true, 0, ByteArray.empty⟩ else if fitP p = true then ⟨false, p.hi * 18446744073709551616 + p.lo, ByteArray.empty⟩ else ⟨false, 0, ByteArray.empty⟩) := hid rfl
  have HTE : Hid (totE p = if p.ct = 0 then 0 else if fitP p = true then 0 else 3) := hid rfl
  generalize totC p = tc at *
  generalize totE p = te at *
  generalize fitP p = fit at *
  obtain ⟨ct, hi, lo, ⟨mnn, mni, mns⟩, ⟨mxn, mxi, mxs⟩⟩ := p
  unfold P9.v
  simp only at *
  obtain ⟨L, hL⟩ : ∃ L : Int, (lo : Int) = L := ⟨_, rfl⟩
  rw [hL] at HF HN HTC ⊢
  clear hlo hL
  have hbel : Hid (∀ o1 o2, Below w.heap.size w ((w.alloc o1).alloc o2)) := hid (fun o1 o2 => ((brefl w).alloc (Nat.le_refl _) _).alloc (by simp) _)
  by_cases h0 : ct = 0
  · rw [if_pos h0] at HTC HTE
    rw [HTC.out, HTE.out]
    unfold C3.v
    clear HF HN
    go_enter Try.func8, Try.ntmps8
    go_wp2
    refine bodyPost_ret (v := .tuple #[.agg #[.bool true, .int .i64 0, .string ByteArray.empty], .int .i64 0]) ?_ rfl ⟨rfl, hbel.out _ _⟩
    simp [results, Try.results8, go_sem]
    rfl
  · rw [if_neg h0] at HTC HTE
    cases fit
    · obtain ⟨n1, n2⟩ := HN.out (by simp)
      rw [if_neg (by simp)] at HTC HTE
      rw [HTC.out, HTE.out]
      unfold C3.v
      clear HF HN
      by_cases e0 : hi = 0
      · subst e0
        have e1 : ¬ L < 9223372036854775808 := fun h => n1 ⟨rfl, h⟩
        clear n1 n2
        go_enter Try.func8, Try.ntmps8
        go_wp2
        refine bodyPost_ret (v := .tuple #[.agg #[.bool false, .int .i64 0, .string ByteArray.empty], .int .i64 3]) ?_ rfl ⟨rfl, hbel.out _ _⟩
        simp [results, Try.results8, go_sem]
        rfl
      · by_cases e2 : hi = -1
        · have b0 : (hi == 0) = false := by simp [e0]
          obtain ⟨bb, b1⟩ : ∃ bb, (hi == -1) = bb := ⟨_, rfl⟩
          have e1 : L < 9223372036854775808 := by
            rcases Int.lt_or_le L 9223372036854775808 with h | h
            · exact h
            · exact absurd ⟨e2, by omega⟩ n2
          have e1' : ¬ (9223372036854775808 : Int) ≤ L := by omega
          have e1'' : ¬ L ≥ 9223372036854775808 := by omega
          clear n1 n2 e2 e0
          go_enter Try.func8, Try.ntmps8
          go_wp2
          all_goals
            refine bodyPost_ret (v := .tuple #[.agg #[.bool false, .int .i64 0, .string ByteArray.empty], .int .i64 3]) ?_ rfl ⟨rfl, hbel.out _ _⟩
            simp [results, Try.results8, go_sem]
            rfl
        · clear n1 n2
          go_enter Try.func8, Try.ntmps8
          go_wp2
          refine bodyPost_ret (v := .tuple #[.agg #[.bool false, .int .i64 0, .string ByteArray.empty], .int .i64 3]) ?_ rfl ⟨rfl, hbel.out _ _⟩
          simp [results, Try.results8, go_sem]
          rfl
    · obtain ⟨hc, hw⟩ := HF.out rfl
      rw [if_pos rfl] at HTC HTE
      generalize hsm : hi * 18446744073709551616 + L = sm at *
      rw [HTC.out, HTE.out]
      unfold C3.v
      clear HF HN
      have hc2 : ((hi == 0) = true ∧ L < 9223372036854775808) ∨ ((hi == 0) = false ∧ (∃ bb, (hi == -1) = bb ∧ Hid (bb = true)) ∧ ¬ L < 9223372036854775808) := by
        rcases hc with ⟨rfl, hc⟩ | ⟨rfl, hc⟩
        · exact .inl ⟨rfl, hc⟩
        · exact .inr ⟨rfl, ⟨_, rfl, hid rfl⟩, hc⟩
      clear hc hsm
      rcases hc2 with ⟨b0, hc⟩ | ⟨b0, ⟨bb, b1, HBB⟩, hc⟩
      all_goals
        go_enter Try.func8, Try.ntmps8
        go_wp2
        all_goals first
          | (refine bodyPost_ret (v := .tuple #[.agg #[.bool false, .int .i64 sm, .string ByteArray.empty], .int .i64 0]) ?_ rfl ⟨rfl, hbel.out _ _⟩
             simp [results, Try.results8, go_sem]
             rfl)
          | (exfalso; have := HBB.out; simp_all; done)
end Go.Proofs.Ytgobcaianpmbiab
