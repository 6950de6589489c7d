/- Package kernel: Filter. -/
import Derived.Test.YthonbfojpbfmgaaGreatDoorLawkerneluptoB23
import Derived.Test.YthonbfojpbfmgaaGreatDoorLawkerneluptoB24
import Derived.Test.YthonbfojpbfmgaaGreatDoorLawkerneluptoB1
import Derived.Test.YthonbfojpbfmgaaGreatDoorLawkerneluptoB12
import Derived.Test.YthonbfojpbfmgaaGreatDoorLawkerneluptoB13
import Derived.Test.YthonbfojpbfmgaaGreatDoorLawkerneluptoB18
import Derived.Test.YthonbfojpbfmgaaGreatDoorLawkerneluptoB14
import Derived.Test.YthonbfojpbfmgaaGreatDoorLawkerneluptoB17
import Derived.Test.YthonbfojpbfmgaaGreatDoorLawkerneluptoB21
set_option linter.unusedVariables false
set_option linter.unusedSimpArgs false
set_option linter.unnecessarySimpa false
set_option maxRecDepth 100000
namespace Go.Proofs.YthonbfojpbfmgaaGreatDoor
open Go.RowKit

/-- what the filter of one kind answers -/
def FilK_I (rows : Nat) (xs : List Nat) (op col : Int) (args : List C3) (w : World) (e : Ending) (w' : World) : Prop :=
  (lkOk_I rows xs = false ∧ FilErr w e w' 1) ∨ (lkOk_I rows xs = true ∧ leafOk 1 ⟨op, col, args⟩ = false ∧ FilErr w e w' 2) ∨
      (lkOk_I rows xs = true ∧ leafOk 1 ⟨op, col, args⟩ = true ∧ FilSays w e w' rows (filT_I op args rows xs) (filU op rows xs))
def FilK_S (rows : Nat) (xs : List Nat) (op col : Int) (args : List C3) (w : World) (e : Ending) (w' : World) : Prop :=
  (lkOk_S rows xs = false ∧ FilErr w e w' 1) ∨ (lkOk_S rows xs = true ∧ leafOk 2 ⟨op, col, args⟩ = false ∧ FilErr w e w' 2) ∨
      (lkOk_S rows xs = true ∧ leafOk 2 ⟨op, col, args⟩ = true ∧ FilSays w e w' rows (filT_S op args rows xs) (filU op rows xs))
/-- an answer is a pair and a code; and may be kept in a cell -/
def FilAny (w : World) (e : Ending) (w' : World) (Q : World → Ending → World → Prop) : Prop := ∃ tv uv code, e = .returned (.tuple #[.agg #[tv, uv], .int .i64 code]) ∧ (∃ A n c, tv = .slice A n c) ∧ (∃ A n c, uv = .slice A n c) ∧ Below w.heap.size w w' ∧
  ∀ w0 w'' p, Below w0.heap.size w0 w → w0.heap.size ≤ p → p < w.heap.size → Chg p p w' w'' → Below w0.heap.size w0 w'' → Q w0 e w''
theorem err_any {w w' : World} {e : Ending} {code : Int} (h : FilErr w e w' code) : FilAny w e w' (fun a b c => FilErr a b c code) := by
  obtain ⟨rfl, hb⟩ := h
  exact ⟨_, _, code, rfl, ⟨_, _, _, rfl⟩, ⟨_, _, _, rfl⟩, hb, fun w0 w'' p h1 h2 h3 h4 h5 => ⟨rfl, h5⟩⟩
theorem says_any {w w' : World} {e : Ending} {rows : Nat} {FT FU : Nat → Bool} (h : FilSays w e w' rows FT FU) : FilAny w e w' (fun a b c => FilSays a b c rows FT FU) := by
  obtain ⟨tv, uv, zt, zu, rfl, h1, h2, h3, h4, h5, h6⟩ := h
  obtain ⟨A, c, rfl, _⟩ := owns_form h3
  obtain ⟨A', c', rfl, _⟩ := owns_form h4
  refine ⟨_, _, 0, rfl, ⟨_, _, _, rfl⟩, ⟨_, _, _, rfl⟩, h6, fun w0 w'' p k1 k2 k3 k4 k5 => ⟨_, _, zt, zu, rfl, h1, h2, ?_, ?_, h5, k5⟩⟩
  · exact owns_low (owns_chg h3 k4 k3 k3) k1.size
  · exact owns_low (owns_chg h4 k4 k3 k3) k1.size
theorem any_imp {w w' : World} {e : Ending} {Q R : World → Ending → World → Prop} (h : FilAny w e w' Q) (hi : ∀ a b c, Q a b c → R a b c) : FilAny w e w' R := by
  obtain ⟨tv, uv, code, h1, h2, h3, h4, h5⟩ := h
  exact ⟨tv, uv, code, h1, h2, h3, h4, fun w0 w'' p k1 k2 k3 k4 k5 => hi _ _ _ (h5 w0 w'' p k1 k2 k3 k4 k5)⟩
theorem kI_any {rows : Nat} {xs : List Nat} {op col : Int} {args : List C3} {w w' : World} {e : Ending} (h : FilK_I rows xs op col args w e w') : FilAny w e w' (FilK_I rows xs op col args) := by
  rcases h with ⟨h1, h2⟩ | ⟨h1, h2, h3⟩ | ⟨h1, h2, h3⟩
  · exact any_imp (err_any h2) (fun a b c k => .inl ⟨h1, k⟩)
  · exact any_imp (err_any h3) (fun a b c k => .inr (.inl ⟨h1, h2, k⟩))
  · exact any_imp (says_any h3) (fun a b c k => .inr (.inr ⟨h1, h2, k⟩))
theorem kS_any {rows : Nat} {xs : List Nat} {op col : Int} {args : List C3} {w w' : World} {e : Ending} (h : FilK_S rows xs op col args w e w') : FilAny w e w' (FilK_S rows xs op col args) := by
  rcases h with ⟨h1, h2⟩ | ⟨h1, h2, h3⟩ | ⟨h1, h2, h3⟩
  · exact any_imp (err_any h2) (fun a b c k => .inl ⟨h1, k⟩)
  · exact any_imp (err_any h3) (fun a b c k => .inr (.inl ⟨h1, h2, k⟩))
  · exact any_imp (says_any h3) (fun a b c k => .inr (.inr ⟨h1, h2, k⟩))
/-- what Filter answers -/
def FilAns (kind rows : Int) (xs : List Nat) (op col : Int) (args : List C3) (w : World) (e : Ending) (w' : World) : Prop :=
  ((isKind kind && isRows rows) = false ∧ FilErr w e w' 5) ∨ (kind = 1 ∧ ∃ n : Nat, rows = n ∧ n ≤ 65536 ∧ FilK_I n xs op col args w e w') ∨ (kind = 2 ∧ ∃ n : Nat, rows = n ∧ n ≤ 65536 ∧ FilK_S n xs op col args w e w')
set_option maxHeartbeats 8000000 in
theorem Filter_any (w : World) (v av : Value) (xs : List Nat) (kind rows op col : Int) (args : List C3) (hT : Tab w) (hv : Rd w v xs.length 1 (u8s xs)) (hb : ∀ x ∈ xs, x < 256) (hl : xs.length ≤ 16777216)
    (hx : Rd w av args.length 3 (cells3 args)) (hal : args.length ≤ 1048576) (har : ∀ c ∈ args, okI c.i)
    (hvI : ∀ n : Nat, rows = n → n ≤ 65536 → lkOk_I n xs = true → FilD_I n xs) (hvS : ∀ n : Nat, rows = n → n ≤ 65536 → lkOk_S n xs = true → FilD_S n xs) :
    Calls Tryz.prog 9 #[.int .i64 kind, .int .i64 rows, v, .agg #[.int .i64 op, .int .i64 col, av]] w fun e w' => FilAns kind rows xs op col args w e w' := by
  have HFI := hid (fun (w2 : World) (h : Below w.heap.size w w2) (n : Nat) (h1 : rows = n) (h2 : n ≤ 65536) => filter_I w2 v av xs n op col args (hT.mono h hT.lt) (hv.mono h) hb hl h2 (hx.mono h) hal har (hvI n h1 h2))
  have HFS := hid (fun (w2 : World) (h : Below w.heap.size w w2) (n : Nat) (h1 : rows = n) (h2 : n ≤ 65536) => filter_S w2 v av xs n op col args (hT.mono h hT.lt) (hv.mono h) hb hl h2 (hx.mono h) hal (fun _ _ => trivial) (hvS n h1 h2))
  have HIK := hid (fun (w2 : World) => IsKind_any kind w2)
  have HIR := hid (fun (w2 : World) => IsRows_any rows w2)
  obtain ⟨A0, c0, rfl, _, _, _⟩ := hv.form
  obtain ⟨A1, ca, rfl, _, _, _⟩ := hx.form
  clear hT hv hx hvI hvS har
  obtain ⟨n, hn⟩ : ∃ n, args.length = n := ⟨_, rfl⟩
  simp only [hn] at HFI HFS hal ⊢
  clear hn
  have HB0 := hid (((brefl w).alloc (Nat.le_refl _) (.cells #[.int .i64 op, .int .i64 col, .slice A1 n ca] 25)).alloc (by simp) (.cells #[.slice none 0 0, .slice none 0 0] 30))
  have HRN : Hid (Row ((w.alloc (.cells #[.int .i64 op, .int .i64 col, .slice A1 n ca] 25)).alloc (.cells #[.slice none 0 0, .slice none 0 0] 30)) w.heap.size 25 [.int .i64 op, .int .i64 col, .slice A1 n ca]) := hid (by
    have h1 : Row (w.alloc (.cells #[.int .i64 op, .int .i64 col, .slice A1 n ca] 25)) w.heap.size 25 [.int .i64 op, .int .i64 col, .slice A1 n ca] := by unfold Row; rw [heap_alloc_new]
    exact h1.mono ((brefl _).alloc (Nat.le_refl _) _))
  have HRP : Hid (Row ((w.alloc (.cells #[.int .i64 op, .int .i64 col, .slice A1 n ca] 25)).alloc (.cells #[.slice none 0 0, .slice none 0 0] 30)) (w.heap.size + 1) 30 [.slice none 0 0, .slice none 0 0]) := hid (by
    have e : w.heap.size + 1 = (w.alloc (.cells #[.int .i64 op, .int .i64 col, .slice A1 n ca] 25)).heap.size := by simp
    rw [e]; unfold Row; rw [heap_alloc_new])
  by_cases hok : (isKind kind && isRows rows) = true
  · have hok2 : (kind = 1 ∨ kind = 2) ∧ 0 ≤ rows ∧ rows ≤ 65536 := by
      rw [Bool.and_eq_true] at hok
      have h1 := hok.1
      have h2 := hok.2
      unfold isKind at h1
      unfold isRows at h2
      exact ⟨of_decide_eq_true h1, of_decide_eq_true h2⟩
    have hik : isKind kind = true := by simp only [Bool.and_eq_true] at hok; exact hok.1
    have hir : isRows rows = true := by simp only [Bool.and_eq_true] at hok; exact hok.2
    rw [hik] at HIK
    rw [hir] at HIR
    clear hok hik hir
    obtain ⟨hk, hr0, hr1⟩ := hok2
    obtain ⟨r, rfl⟩ := Int.eq_ofNat_of_zero_le hr0
    rcases hk with rfl | rfl
    · clear HFS
      go_enter Tryz.func9, Tryz.ntmps9
      go_upto_region 1 with fail
      generalize (w.alloc (.cells #[.int .i64 op, .int .i64 col, .slice A1 n ca] 25)).alloc (.cells #[.slice none 0 0, .slice none 0 0] 30) = w0 at *
      obtain ⟨k0, k1, k2⟩ := cell3 HRN.out
      have HFX := hid (HFI.out w0 HB0.out r rfl (by omega))
      go_wp2_with (first
        | (go_at_call 27; refine (HIK.out _).mono ?_; rintro e w3 ⟨rfl, hw3⟩; replace hw3 := hw3.symm; subst hw3)
        | (go_at_call 28; refine (HIR.out _).mono ?_; rintro e w4 ⟨rfl, hw4⟩; replace hw4 := hw4.symm; subst hw4)
        | (go_at_call 30; refine HFX.out.mono ?_; rintro e w5 h; obtain ⟨tv, uv, code, rfl, ⟨B1, m1, d1, rfl⟩, ⟨B2, m2, d2, rfl⟩, hb5, hk5⟩ := kI_any h; have HB5 := hid hb5; have HK5 := hid hk5; have HRP5 := hid (HRP.out.mono hb5); clear h hb5 hk5 k0 k1 k2; have z0 := HRP5.out.cell 0; have z1 := HRP5.out.cell 1; have f0 := HRP5.out.frozen 0; have f1 := HRP5.out.frozen 1))
      have HB6 := hid (HB0.out.trans (HB5.out.mono HB0.out.size))
      have HBF := hid (below_set (below_set HB6.out (w.heap.size + 1) 0 (.slice B1 m1 d1) (by omega)) (w.heap.size + 1) 1 (.slice B2 m2 d2) (by omega))
      have HRF := hid ((HRP5.out.set 0 (.slice B1 m1 d1)).set 1 (.slice B2 m2 d2))
      have HCF := hid (((Chg.refl (w.heap.size + 1) (w.heap.size + 1) w5).setCell (w.heap.size + 1) 0 (.slice B1 m1 d1) (.inl rfl)).setCell (w.heap.size + 1) 1 (.slice B2 m2 d2) (.inl rfl))
      have hans := HK5.out w _ (w.heap.size + 1) HB0.out (by omega) HRP.out.lt HCF.out HBF.out
      refine bodyPost_ret (v := .tuple #[.agg #[.slice B1 m1 d1, .slice B2 m2 d2], .int .i64 code]) ?_ rfl (.inr <| .inl ⟨rfl, r, rfl, by omega, hans⟩)
      have y0 := HRF.out.cell 0
      have y1 := HRF.out.cell 1
      simp at y0 y1
      simp [results, Tryz.results9, go_sem, y0, y1]
    · clear HFI
      go_enter Tryz.func9, Tryz.ntmps9
      go_upto_region 1 with fail
      generalize (w.alloc (.cells #[.int .i64 op, .int .i64 col, .slice A1 n ca] 25)).alloc (.cells #[.slice none 0 0, .slice none 0 0] 30) = w0 at *
      obtain ⟨k0, k1, k2⟩ := cell3 HRN.out
      have HFX := hid (HFS.out w0 HB0.out r rfl (by omega))
      go_wp2_with (first
        | (go_at_call 27; refine (HIK.out _).mono ?_; rintro e w3 ⟨rfl, hw3⟩; replace hw3 := hw3.symm; subst hw3)
        | (go_at_call 28; refine (HIR.out _).mono ?_; rintro e w4 ⟨rfl, hw4⟩; replace hw4 := hw4.symm; subst hw4)
        | (go_at_call 29; refine HFX.out.mono ?_; rintro e w5 h; obtain ⟨tv, uv, code, rfl, ⟨B1, m1, d1, rfl⟩, ⟨B2, m2, d2, rfl⟩, hb5, hk5⟩ := kS_any h; have HB5 := hid hb5; have HK5 := hid hk5; have HRP5 := hid (HRP.out.mono hb5); clear h hb5 hk5 k0 k1 k2; have z0 := HRP5.out.cell 0; have z1 := HRP5.out.cell 1; have f0 := HRP5.out.frozen 0; have f1 := HRP5.out.frozen 1))
      have HB6 := hid (HB0.out.trans (HB5.out.mono HB0.out.size))
      have HBF := hid (below_set (below_set HB6.out (w.heap.size + 1) 0 (.slice B1 m1 d1) (by omega)) (w.heap.size + 1) 1 (.slice B2 m2 d2) (by omega))
      have HRF := hid ((HRP5.out.set 0 (.slice B1 m1 d1)).set 1 (.slice B2 m2 d2))
      have HCF := hid (((Chg.refl (w.heap.size + 1) (w.heap.size + 1) w5).setCell (w.heap.size + 1) 0 (.slice B1 m1 d1) (.inl rfl)).setCell (w.heap.size + 1) 1 (.slice B2 m2 d2) (.inl rfl))
      have hans := HK5.out w _ (w.heap.size + 1) HB0.out (by omega) HRP.out.lt HCF.out HBF.out
      refine bodyPost_ret (v := .tuple #[.agg #[.slice B1 m1 d1, .slice B2 m2 d2], .int .i64 code]) ?_ rfl (.inr <| .inr ⟨rfl, r, rfl, by omega, hans⟩)
      have y0 := HRF.out.cell 0
      have y1 := HRF.out.cell 1
      simp at y0 y1
      simp [results, Tryz.results9, go_sem, y0, y1]
  · have hok2 : (isKind kind && isRows rows) = false := Bool.not_eq_true _ ▸ hok
    have HOK := hid hok2
    clear hok hok2 HFI HFS
    obtain ⟨ik, hik⟩ : ∃ ik, isKind kind = ik := ⟨_, rfl⟩
    obtain ⟨ir, hir⟩ : ∃ ir, isRows rows = ir := ⟨_, rfl⟩
    have HC : Hid ((ik && ir) = false) := hid (by rw [← hik, ← hir]; exact HOK.out)
    rw [hik] at HIK
    rw [hir] at HIR
    clear hik hir
    go_enter Tryz.func9, Tryz.ntmps9
    go_upto_region 1 with fail
    generalize (w.alloc (.cells #[.int .i64 op, .int .i64 col, .slice A1 n ca] 25)).alloc (.cells #[.slice none 0 0, .slice none 0 0] 30) = w0 at *
    have z0 := HRP.out.cell 0
    have z1 := HRP.out.cell 1
    have f0 := HRP.out.frozen 0
    have f1 := HRP.out.frozen 1
    have HBF := hid (below_set (below_set HB0.out (w.heap.size + 1) 0 (.slice none 0 0) (by omega)) (w.heap.size + 1) 1 (.slice none 0 0) (by omega))
    have HRF := hid ((HRP.out.set 0 (.slice none 0 0)).set 1 (.slice none 0 0))
    have hcs : (ik = false) ∨ (ik = true ∧ ir = false) := by have := HC.out; revert this; cases ik <;> cases ir <;> simp
    rcases hcs with rfl | ⟨rfl, rfl⟩
    all_goals go_wp2_with (first
        | (go_at_call 27; refine (HIK.out _).mono ?_; rintro e w3 ⟨rfl, hw3⟩; replace hw3 := hw3.symm; subst hw3)
        | (go_at_call 28; refine (HIR.out _).mono ?_; rintro e w4 ⟨rfl, hw4⟩; replace hw4 := hw4.symm; subst hw4))
    all_goals refine bodyPost_ret (v := .tuple #[.agg #[.slice none 0 0, .slice none 0 0], .int .i64 5]) ?_ rfl (.inl ⟨HOK.out, rfl, HBF.out⟩)
    all_goals have y0 := HRF.out.cell 0
    all_goals have y1 := HRF.out.cell 1
    all_goals simp at y0 y1
    all_goals simp [results, Tryz.results9, go_sem, y0, y1]
end Go.Proofs.YthonbfojpbfmgaaGreatDoor

/- A body that a look finds valid has what a filter asks (integers). -/
set_option linter.unusedVariables false
set_option linter.unusedSimpArgs false
set_option linter.unnecessarySimpa false
set_option maxRecDepth 20000
namespace Go.Proofs.YthonbfojpbfmgaaGreatDoor
open Go.RowKit

theorem asc_geI {vals : List Int} (h : noPair geI vals = true) : ∀ a b, a < b → b < vals.length → vals.getD a 0 < vals.getD b 0 := by
  have h1 := (noPair_iff geI 0 vals).1 h
  intro a b hab
  induction b with
  | zero => omega
  | succ b ih =>
    intro hb
    have h2 := h1 b hb
    unfold geI at h2
    simp only [decide_eq_false_iff_not] at h2
    by_cases he : a = b
    · subst he; omega
    · have := ih (by omega) (by omega); omega
theorem endsUp_at (es : List Int) : ∀ l k, endsUp l es = some k → k = if es.length = 0 then l else es.getD (es.length - 1) 0 := by
  induction es with
  | nil => intro l k h; simp [endsUp] at h; simp [h]
  | cons e r ih =>
    intro l k h
    simp only [endsUp] at h
    split at h
    · cases h
    · have := ih e k h
      rw [this]
      cases r with
      | nil => simp
      | cons f r => simp
theorem runs_nat {es : List Nat} {k : Nat} (h : runEnds (nI es) k = true) (hk : k ≤ 65536) : es.length ≤ 65536 ∧ (∀ a b, a < b → b < es.length → es.getD a 0 < es.getD b 0) ∧ endB es es.length = k := by
  have h1 : endsUp 0 (nI es) = some (k : Int) := by simpa [runEnds] using h
  have hasc := runEnds_asc h
  rw [nI_length] at hasc
  have hasc2 : ∀ a b, a < b → b < es.length → es.getD a 0 < es.getD b 0 := fun a b hab hb => by
    have := hasc a b hab hb
    rw [nI_get es a (by omega), nI_get es b hb] at this
    omega
  have hgt := endsUp_gt (nI es) 0 k h1
  rw [nI_length] at hgt
  have hge : ∀ i, i < es.length → i + 1 ≤ es.getD i 0 := by
    intro i
    induction i with
    | zero => intro hi; have := hgt 0 hi; rw [nI_get es 0 hi] at this; omega
    | succ i ih => intro hi; have := ih (by omega); have := hasc2 i (i + 1) (by omega) hi; omega
  have hlast := endsUp_at (nI es) 0 k h1
  rw [nI_length] at hlast
  have hend : endB es es.length = k := by
    unfold endB
    by_cases h0 : es.length = 0
    · rw [if_pos h0] at hlast ⊢; omega
    · rw [if_neg h0, nI_get es _ (by omega)] at hlast
      rw [if_neg h0]; omega
  refine ⟨?_, hasc2, hend⟩
  by_cases h0 : es.length = 0
  · omega
  · have := hge (es.length - 1) (by omega)
    unfold endB at hend
    rw [if_neg h0] at hend
    omega
theorem filD_I (rows : Nat) (xs : List Nat) (hb : ∀ x ∈ xs, x < 256) (hl : xs.length ≤ 16777216) (hrr : rows ≤ 65536) (h : lkOk_I rows xs = true) : FilD_I rows xs := by
  unfold lkOk_I headOk at h
  simp only [Bool.and_eq_true, Bool.not_eq_true', decide_eq_true_eq] at h
  obtain ⟨⟨hpk, hcd⟩, hOb, hOs, hOl⟩ := h
  refine ⟨hpk, ?_⟩
  have hx3 : (headOf rows xs).left.length ≤ 16777216 := Nat.le_trans (tkL_le _ _) (Nat.le_trans (tkL_le _ _) (Nat.le_trans (tkL_le _ _) hl))
  have hb3 : ∀ x ∈ (headOf rows xs).left, x < 256 := tkL_lt (tkL_lt (tkL_lt hb))
  have hk6 : cntOf rows (headOf rows xs).nulls ≤ 65536 := by unfold cntOf; omega
  unfold lkOut_I lkBase_I at *
  generalize cntOf rows (headOf rows xs).nulls = k at *
  generalize (headOf rows xs).left = x3 at *
  generalize (headOf rows xs).short = t3 at *
  generalize (headOf rows xs).codec = cd at *
  generalize (headOf rows xs).wd = wd at *
  have hcdk : 1 ≤ cd ∧ cd ≤ 5 := by
    unfold isCodec at hcd
    split at hcd
    · omega
    · simp only [decide_eq_true_eq] at hcd; omega
  unfold outPay_I at *
  by_cases h1 : cd = 1
  · subst h1
    rw [if_pos rfl] at *
    unfold outPlain_I at *
    simp only [Bool.and_eq_true, decide_eq_true_eq] at *
    exact .inl ⟨rfl, rd_full_I hOb.1 hOs, hk6⟩
  by_cases h2 : cd = 2
  · subst h2
    rw [if_neg (by decide), if_pos rfl] at *
    unfold outDict_I at *
    split at hOb
    · cases hOb
    · rename_i hc
      rw [if_neg hc] at *
      have hxl1 : (tkL 4 x3).length ≤ 16777216 := Nat.le_trans (tkL_le _ _) hx3
      have hxb1 : ∀ x ∈ tkL 4 x3, x < 256 := tkL_lt hb3
      have hrb := (rd_left_I (L.wordOf 8 (tk 4 x3)) (tkL 4 x3) (tkS 4 x3 t3)).2 256 hxb1
      have hlb := (rd_left_I (L.wordOf 8 (tk 4 x3)) (tkL 4 x3) (tkS 4 x3 t3)).1
      have hfl := @rd_full_I (L.wordOf 8 (tk 4 x3)) (tkL 4 x3) (tkS 4 x3 t3)
      generalize rdI (L.wordOf 8 (tk 4 x3)) (tkL 4 x3) (tkS 4 x3 t3) = R at *
      generalize L.wordOf 8 (tk 4 x3) = dd at *
      obtain ⟨vals, ok, xl, s1⟩ := R
      simp only at *
      split at hOb
      · rename_i hoa
        rw [if_pos hoa] at *
        simp only at *
        obtain ⟨l1, l2, l3, l4⟩ := lanesB_true hOb
        have hs1 := (tkS_false hOs).2
        simp only [Bool.and_eq_true] at hoa
        have hvl := hfl hoa.1 hs1
        refine .inr (.inr ⟨.inl rfl, by first | trivial | rfl, (okPack_nat _ l1 l2).2 l3, restW_lt hrb, ?_, by omega, hk6, fun _ => asc_geI hoa.2, fun _ j hj => ?_, ?_, fun hh => absurd rfl hh⟩)
        · rw [restW_len]; omega
        · have := l4 j hj
          unfold standsB at this
          simp at this
          omega
        · unfold basePay okI; simp
      · cases hOb
  by_cases h3 : cd = 3
  · subst h3
    rw [if_neg (by decide), if_neg (by decide), if_pos rfl] at *
    unfold outRuns_I at *
    split at hOb
    · cases hOb
    · rename_i hc
      rw [if_neg hc] at *
      have hfl := @rd_full_I (L.wordOf 8 (tk 4 x3)) (tkL (4 * L.wordOf 8 (tk 4 x3)) (tkL 4 x3)) (tkS (4 * L.wordOf 8 (tk 4 x3)) (tkL 4 x3) (tkS 4 x3 t3))
      have hsh := rd_short_I (L.wordOf 8 (tk 4 x3)) (tkL (4 * L.wordOf 8 (tk 4 x3)) (tkL 4 x3)) (tkS (4 * L.wordOf 8 (tk 4 x3)) (tkL 4 x3) (tkS 4 x3 t3))
      have hel : tkS (4 * L.wordOf 8 (tk 4 x3)) (tkL 4 x3) (tkS 4 x3 t3) = false → (numL 4 (tk (4 * L.wordOf 8 (tk 4 x3)) (tkL 4 x3))).length = L.wordOf 8 (tk 4 x3) := fun h => by
        rw [numL_length, tk_len (tkS_false h).1]; omega
      generalize rdI (L.wordOf 8 (tk 4 x3)) (tkL (4 * L.wordOf 8 (tk 4 x3)) (tkL 4 x3)) (tkS (4 * L.wordOf 8 (tk 4 x3)) (tkL 4 x3) (tkS 4 x3 t3)) = R at *
      generalize numL 4 (tk (4 * L.wordOf 8 (tk 4 x3)) (tkL 4 x3)) = es at *
      generalize tkS (4 * L.wordOf 8 (tk 4 x3)) (tkL 4 x3) (tkS 4 x3 t3) = s2 at *
      generalize L.wordOf 8 (tk 4 x3) = dd at *
      obtain ⟨vals, ok, xl, s1⟩ := R
      simp only [Bool.and_eq_true] at *
      have hvl := hfl hOb.1 hOs
      have hed := hel (hsh hOs)
      have hre : runEnds (nI es) k = true := by
        cases hx : runEnds (nI es) k with
        | true => rfl
        | false => exact absurd (.inr hx) hc
      obtain ⟨r1, r2, r3⟩ := runs_nat hre hk6
      exact .inr (.inl ⟨rfl, by rw [hvl, hed], hk6, r1, r2, r3⟩)
  · rw [if_neg h1, if_neg h2, if_neg h3] at *
    have h45 : cd = 4 ∨ cd = 5 := by omega
    rcases h45 with rfl | rfl
    · rw [if_pos rfl] at *
      unfold outOff at *
      simp only at *
      obtain ⟨l1, l2, l3, l4⟩ := lanesB_true hOb
      have hbd := sgn64_bd (L.wordOf 8 (tk 8 x3))
      have hbp : basePay 4 x3 = sgn64 (L.wordOf 8 (tk 8 x3)) := if_pos rfl
      rw [hbp] at l4 ⊢
      have hxl1 : (tkL 8 x3).length ≤ 16777216 := Nat.le_trans (tkL_le _ _) hx3
      refine .inr (.inr ⟨.inr (.inl rfl), trivial, (okPack_nat _ l1 l2).2 l3, restW_lt (tkL_lt hb3), ?_, by simp, hk6, fun hh => absurd hh (by decide), fun hh => absurd hh (by decide), hbd, fun _ j hj => ?_⟩)
      · rw [restW_len]; omega
      · have := l4 j hj
        unfold standsB roomN at this
        simp at this
        omega
    · rw [if_neg (by decide)] at *
      unfold outOff at *
      simp only at *
      obtain ⟨l1, l2, l3, l4⟩ := lanesB_true hOb
      have hbp : basePay 5 x3 = 0 := if_neg (by decide)
      rw [hbp]
      refine .inr (.inr ⟨.inr (.inr rfl), trivial, (okPack_nat _ l1 l2).2 l3, restW_lt hb3, ?_, by simp, hk6, fun hh => absurd hh (by decide), fun hh => absurd hh (by decide), by unfold okI; omega, fun _ j hj => ?_⟩)
      · rw [restW_len]; omega
      · have := l4 j hj
        unfold standsB roomN at this
        simp at this
        omega
end Go.Proofs.YthonbfojpbfmgaaGreatDoor

/- A body that a look finds valid has what a filter asks (strings). -/
set_option linter.unusedVariables false
set_option linter.unusedSimpArgs false
set_option linter.unnecessarySimpa false
set_option maxRecDepth 20000
namespace Go.Proofs.YthonbfojpbfmgaaGreatDoor
open Go.RowKit

theorem asc_geS {vals : List ByteArray} (h : noPair geS vals = true) : ∀ a b, a < b → b < vals.length → ltS (vals.getD a ByteArray.empty) (vals.getD b ByteArray.empty) = true := by
  have h1 := (noPair_iff geS ByteArray.empty vals).1 h
  intro a b hab
  induction b with
  | zero => omega
  | succ b ih =>
    intro hb
    have h2 := h1 b hb
    unfold geS at h2
    have h3 : ltS (vals.getD b ByteArray.empty) (vals.getD (b + 1) ByteArray.empty) = true := by simpa using h2
    by_cases he : a = b
    · subst he; exact h3
    · exact ltS_trans (ih (by omega) (by omega)) h3
theorem filD_S (rows : Nat) (xs : List Nat) (hb : ∀ x ∈ xs, x < 256) (hl : xs.length ≤ 16777216) (hrr : rows ≤ 65536) (h : lkOk_S rows xs = true) : FilD_S rows xs := by
  unfold lkOk_S headOk at h
  simp only [Bool.and_eq_true, Bool.not_eq_true', decide_eq_true_eq] at h
  obtain ⟨⟨hpk, hcd⟩, hOb, hOs, hOl⟩ := h
  refine ⟨hpk, ?_⟩
  have hx3 : (headOf rows xs).left.length ≤ 16777216 := Nat.le_trans (tkL_le _ _) (Nat.le_trans (tkL_le _ _) (Nat.le_trans (tkL_le _ _) hl))
  have hb3 : ∀ x ∈ (headOf rows xs).left, x < 256 := tkL_lt (tkL_lt (tkL_lt hb))
  have hk6 : cntOf rows (headOf rows xs).nulls ≤ 65536 := by unfold cntOf; omega
  unfold lkOut_S lkBase_S at *
  generalize cntOf rows (headOf rows xs).nulls = k at *
  generalize (headOf rows xs).left = x3 at *
  generalize (headOf rows xs).short = t3 at *
  generalize (headOf rows xs).codec = cd at *
  generalize (headOf rows xs).wd = wd at *
  have hcdk : 1 ≤ cd ∧ cd ≤ 3 := by
    unfold isCodec at hcd
    split at hcd
    · omega
    · simp only [decide_eq_true_eq] at hcd; unfold knum_S at hcd; omega
  unfold outPay_S at *
  by_cases h1 : cd = 1
  · subst h1
    rw [if_pos rfl] at *
    unfold outPlain_S at *
    simp only [Bool.and_eq_true, decide_eq_true_eq] at *
    exact .inl ⟨rfl, rd_full_S hOb.1 hOs, hk6⟩
  by_cases h2 : cd = 2
  · subst h2
    rw [if_neg (by decide), if_pos rfl] at *
    unfold outDict_S at *
    split at hOb
    · cases hOb
    · rename_i hc
      rw [if_neg hc] at *
      have hxl1 : (tkL 4 x3).length ≤ 16777216 := Nat.le_trans (tkL_le _ _) hx3
      have hxb1 : ∀ x ∈ tkL 4 x3, x < 256 := tkL_lt hb3
      have hrb := (rd_left_S (L.wordOf 8 (tk 4 x3)) (tkL 4 x3) (tkS 4 x3 t3)).2 256 hxb1
      have hlb := (rd_left_S (L.wordOf 8 (tk 4 x3)) (tkL 4 x3) (tkS 4 x3 t3)).1
      have hfl := @rd_full_S (L.wordOf 8 (tk 4 x3)) (tkL 4 x3) (tkS 4 x3 t3)
      generalize rdS (L.wordOf 8 (tk 4 x3)) (tkL 4 x3) (tkS 4 x3 t3) = R at *
      generalize L.wordOf 8 (tk 4 x3) = dd at *
      obtain ⟨vals, ok, xl, s1⟩ := R
      simp only at *
      split at hOb
      · rename_i hoa
        rw [if_pos hoa] at *
        simp only at *
        obtain ⟨l1, l2, l3, l4⟩ := lanesB_true hOb
        have hs1 := (tkS_false hOs).2
        simp only [Bool.and_eq_true] at hoa
        have hvl := hfl hoa.1 hs1
        refine .inr (.inr ⟨.inl rfl, by first | trivial | rfl, (okPack_nat _ l1 l2).2 l3, restW_lt hrb, ?_, by omega, hk6, fun _ => asc_geS hoa.2, fun _ j hj => ?_, ?_, fun hh => absurd rfl hh⟩)
        · rw [restW_len]; omega
        · have := l4 j hj
          unfold standsB at this
          simp at this
          omega
        · unfold okI; simp
      · cases hOb
  · obtain rfl : cd = 3 := by omega
    rw [if_neg (by decide), if_neg (by decide)] at *
    unfold outRuns_S at *
    split at hOb
    · cases hOb
    · rename_i hc
      rw [if_neg hc] at *
      have hfl := @rd_full_S (L.wordOf 8 (tk 4 x3)) (tkL (4 * L.wordOf 8 (tk 4 x3)) (tkL 4 x3)) (tkS (4 * L.wordOf 8 (tk 4 x3)) (tkL 4 x3) (tkS 4 x3 t3))
      have hsh := rd_short_S (L.wordOf 8 (tk 4 x3)) (tkL (4 * L.wordOf 8 (tk 4 x3)) (tkL 4 x3)) (tkS (4 * L.wordOf 8 (tk 4 x3)) (tkL 4 x3) (tkS 4 x3 t3))
      have hel : tkS (4 * L.wordOf 8 (tk 4 x3)) (tkL 4 x3) (tkS 4 x3 t3) = false → (numL 4 (tk (4 * L.wordOf 8 (tk 4 x3)) (tkL 4 x3))).length = L.wordOf 8 (tk 4 x3) := fun h => by
        rw [numL_length, tk_len (tkS_false h).1]; omega
      generalize rdS (L.wordOf 8 (tk 4 x3)) (tkL (4 * L.wordOf 8 (tk 4 x3)) (tkL 4 x3)) (tkS (4 * L.wordOf 8 (tk 4 x3)) (tkL 4 x3) (tkS 4 x3 t3)) = R at *
      generalize numL 4 (tk (4 * L.wordOf 8 (tk 4 x3)) (tkL 4 x3)) = es at *
      generalize tkS (4 * L.wordOf 8 (tk 4 x3)) (tkL 4 x3) (tkS 4 x3 t3) = s2 at *
      generalize L.wordOf 8 (tk 4 x3) = dd at *
      obtain ⟨vals, ok, xl, s1⟩ := R
      simp only [Bool.and_eq_true] at *
      have hvl := hfl hOb.1 hOs
      have hed := hel (hsh hOs)
      have hre : runEnds (nI es) k = true := by
        cases hx : runEnds (nI es) k with
        | true => rfl
        | false => exact absurd (.inr hx) hc
      obtain ⟨r1, r2, r3⟩ := runs_nat hre hk6
      exact .inr (.inl ⟨rfl, by rw [hvl, hed], hk6, r1, r2, r3⟩)
end Go.Proofs.YthonbfojpbfmgaaGreatDoor

/- Package kernel: Filter in the document's words. -/
set_option linter.unusedVariables false
set_option linter.unusedSimpArgs false
set_option linter.unnecessarySimpa false
set_option maxRecDepth 100000
namespace Go.Proofs.YthonbfojpbfmgaaGreatDoor
open Go.RowKit

theorem ofK_one {c : C3} (h : isVal 1 c = true) : pvOf c = pI c.i := by
  obtain ⟨n, i, s⟩ := c
  unfold isVal ofK at h
  simp only [Bool.and_eq_true, Bool.not_eq_true'] at h
  obtain ⟨rfl, h⟩ := h
  simp only [Bool.false_eq_true, if_false, if_true] at h
  unfold pvOf pI
  simp only
  congr 1
  exact ba_ext (by rw [List.isEmpty_iff.1 h]; decide +kernel)
theorem ofK_two {c : C3} (h : isVal 2 c = true) : pvOf c = pS c.s := by
  obtain ⟨n, i, s⟩ := c
  unfold isVal ofK at h
  simp only [Bool.and_eq_true, Bool.not_eq_true'] at h
  obtain ⟨rfl, h⟩ := h
  simp only [Bool.false_eq_true, if_false, if_neg (show ¬ (2 : Int) = 1 by decide), decide_eq_true_eq] at h
  unfold pvOf pS
  simp only
  rw [h.2.1]
theorem args_one {args : List C3} (h : args.all (isVal 1) = true) : (args.map C3.i).map pI = args.map pvOf := by
  rw [List.map_map]
  exact List.map_congr_left fun c hc => (ofK_one (List.all_eq_true.1 h c hc)).symm
theorem args_two {args : List C3} (h : args.all (isVal 2) = true) : (args.map C3.s).map pS = args.map pvOf := by
  rw [List.map_map]
  exact List.map_congr_left fun c hc => (ofK_two (List.all_eq_true.1 h c hc)).symm
theorem leafV_two (op : Int) (az : List C3) (nl : Bool) (v : PV) : decide (leafV op az nl v = 2) = if op = 9 then nl else !nl && leafT op (az.map pvOf) v := by
  unfold leafV
  by_cases h9 : op = 9
  · subst h9; cases nl <;> simp
  · cases nl <;> simp [h9]
theorem leafV_one (op : Int) (az : List C3) (nl : Bool) (v : PV) : decide (leafV op az nl v = 1) = if op = 9 then false else nl := by
  unfold leafV
  by_cases h9 : op = 9
  · subst h9; cases nl <;> simp
  · cases nl <;> cases leafT op (az.map pvOf) v <;> simp [h9]
theorem bits_eq {n : Nat} {F : Nat → Bool} {zs : List Nat} {fl : List Bool} (h : BitsOf n F zs) (hl : fl.length = n) (hf : ∀ r, r < n → fl.getD r false = F r) : zs = bmL fl := by
  obtain ⟨h1, h2, h3⟩ := h
  obtain ⟨b1, b2, b3⟩ := bmL_isBm fl
  rw [hl] at b1 b3
  rw [nWords1k] at b1
  refine bm_ext (by rw [h1, b1]) h2 b2 (fun i hi => ?_)
  rw [h3, b3 i (by rw [b1, ← h1]; exact hi)]
  show (decide (i < n) && F i) = (decide (i < n) && fl.getD i false)
  by_cases hn : i < n
  · rw [hf i hn]
  · simp [hn]
theorem leaf_both {kind op col : Int} {args : List C3} (hk : isKind kind = true) : leafOk kind ⟨op, col, args⟩ = leafR kind ⟨op, col, args⟩ := by
  unfold leafOk leafR
  rw [hk, Bool.and_true]

/-- what Filter answers, in the document's words -/
def FilDoc (kind rows : Int) (xs : List Nat) (op col : Int) (args : List C3) (w : World) (e : Ending) (w' : World) : Prop := ∃ tv uv, e = .returned (.tuple #[.agg #[tv, uv], .int .i64 (rfCode kind rows op col args xs)]) ∧
  w'.ownsRow w.heap.size 40 1 tv (rfZ kind rows op col args xs 2).length (u64s (rfZ kind rows op col args xs 2)) ∧ w'.ownsRow w.heap.size 40 1 uv (rfZ kind rows op col args xs 1).length (u64s (rfZ kind rows op col args xs 1)) ∧
  (∀ k, tv.ownBlock = some k → uv.ownBlock ≠ some k) ∧ Below w.heap.size w w'
theorem doc_err {kind rows : Int} {xs : List Nat} {op col : Int} {args : List C3} {w w' : World} {e : Ending} {c : Int} (h : FilErr w e w' c) (hc : c ≠ 0) (hr : rfCode kind rows op col args xs = c) : FilDoc kind rows xs op col args w e w' := by
  obtain ⟨rfl, hb⟩ := h
  have z : ∀ t, rfZ kind rows op col args xs t = [] := fun t => by unfold rfZ; rw [hr, if_neg hc]
  refine ⟨_, _, by rw [hr], ?_, ?_, fun k hk => (by cases hk), hb⟩
  · rw [z]; exact World.ownsRow_nil _ _ _ _
  · rw [z]; exact World.ownsRow_nil _ _ _ _
theorem doc_says {kind rows : Int} {xs : List Nat} {op col : Int} {args : List C3} {w w' : World} {e : Ending} {n : Nat} {FT FU : Nat → Bool} (h : FilSays w e w' n FT FU) (hn : rows = n) (hr : rfCode kind rows op col args xs = 0)
    (h2 : ∀ r, r < n → decide (rfV kind.toNat n op args xs r = 2) = FT r) (h1 : ∀ r, r < n → decide (rfV kind.toNat n op args xs r = 1) = FU r) : FilDoc kind rows xs op col args w e w' := by
  subst hn
  obtain ⟨tv, uv, zt, zu, rfl, b2, b1, o2, o1, hs, hb⟩ := h
  have e2 : zt = rfZ kind n op col args xs 2 := by
    unfold rfZ
    rw [if_pos hr, Int.toNat_natCast]
    exact bits_eq b2 (rfB_len ..) (fun r hr => by rw [rfB_get _ _ _ _ _ _ _ _ hr, h2 r hr])
  have e1 : zu = rfZ kind n op col args xs 1 := by
    unfold rfZ
    rw [if_pos hr, Int.toNat_natCast]
    exact bits_eq b1 (rfB_len ..) (fun r hr => by rw [rfB_get _ _ _ _ _ _ _ _ hr, h1 r hr])
  rw [← b2.1] at o2
  rw [← b1.1] at o1
  refine ⟨tv, uv, by rw [hr], ?_, ?_, hs, hb⟩
  · rw [← e2]; exact o2
  · rw [← e1]; exact o1
theorem cells_I {rows : Nat} {xs : List Nat} (hrr : rows ≤ 65536) (hok : rOk 1 rows xs = true) {r : Nat} (hr : r < rows) : cA (rWs rows xs) r = bitOf (headOf rows xs).nulls r ∧ (bitOf (headOf rows xs).nulls r = false → (cB (rWs rows xs) (rPay 1 rows xs).2 r, cC (rWs rows xs) (rPay 1 rows xs).2 r) = pI (rowV_I rows xs r)) := by
  obtain ⟨m1, m2, m3⟩ := (meet_I rows xs hrr).2 hok r hr
  refine ⟨m1.symm, fun h => ?_⟩
  rw [← m2, ← m3]
  unfold cellB_I cellC_I rowV_I pI cB_I cC_I
  rw [h]
  rfl
theorem cells_S {rows : Nat} {xs : List Nat} (hrr : rows ≤ 65536) (hok : rOk 2 rows xs = true) {r : Nat} (hr : r < rows) : cA (rWs rows xs) r = bitOf (headOf rows xs).nulls r ∧ (bitOf (headOf rows xs).nulls r = false → (cB (rWs rows xs) (rPay 2 rows xs).2 r, cC (rWs rows xs) (rPay 2 rows xs).2 r) = pS (rowV_S rows xs r)) := by
  obtain ⟨m1, m2, m3⟩ := (meet_S rows xs hrr).2 hok r hr
  refine ⟨m1.symm, fun h => ?_⟩
  rw [← m2, ← m3]
  unfold cellB_S cellC_S rowV_S pS cB_S cC_S
  rw [h]
  rfl
theorem filM_I {n : Nat} {xs : List Nat} {op col : Int} {args : List C3} {w w' : World} {e : Ending} (hn : n ≤ 65536) (h : FilK_I n xs op col args w e w') : FilDoc 1 n xs op col args w e w' := by
  have hk : isKind 1 = true := by decide
  have hg : (isKind 1 && isRows n) = true := by rw [hk]; simp [isRows]; omega
  have hm := (meet_I n xs hn).1
  have hrc : refCode 1 n xs = if rOk 1 n xs = true then 0 else 1 := by unfold refCode; rw [if_pos hg]; rfl
  rcases h with ⟨h1, h2⟩ | ⟨h1, h2, h3⟩ | ⟨h1, h2, h3⟩
  · refine doc_err h2 (by decide) ?_
    unfold rfCode
    rw [hrc, ← hm, h1]
    rfl
  · refine doc_err h3 (by decide) ?_
    unfold rfCode
    rw [hrc, ← hm, h1, if_pos rfl, if_pos rfl, ← leaf_both hk, h2]
    rfl
  · have hlr : leafR 1 ⟨op, col, args⟩ = true := by rw [← leaf_both hk]; exact h2
    have hall : args.all (isVal 1) = true := by unfold leafR at hlr; simp only [Bool.and_eq_true] at hlr; exact hlr.2
    have hok : rOk 1 n xs = true := by rw [← hm]; exact h1
    refine doc_says h3 rfl ?_ (fun r hr => ?_) (fun r hr => ?_)
    · unfold rfCode
      rw [hrc, hok, if_pos rfl, if_pos rfl, if_pos hlr]
    · obtain ⟨c1, c2⟩ := cells_I hn hok hr
      unfold rfV filT_I
      rw [leafV_two, show (1 : Int).toNat = 1 from rfl, c1, args_one hall]
      cases hb : bitOf (headOf n xs).nulls r
      · rw [c2 hb]
      · simp
    · obtain ⟨c1, c2⟩ := cells_I hn hok hr
      unfold rfV filU
      rw [leafV_one, c1]
theorem filM_S {n : Nat} {xs : List Nat} {op col : Int} {args : List C3} {w w' : World} {e : Ending} (hn : n ≤ 65536) (h : FilK_S n xs op col args w e w') : FilDoc 2 n xs op col args w e w' := by
  have hk : isKind 2 = true := by decide
  have hg : (isKind 2 && isRows n) = true := by rw [hk]; simp [isRows]; omega
  have hm := (meet_S n xs hn).1
  have hrc : refCode 2 n xs = if rOk 2 n xs = true then 0 else 1 := by unfold refCode; rw [if_pos hg]; rfl
  rcases h with ⟨h1, h2⟩ | ⟨h1, h2, h3⟩ | ⟨h1, h2, h3⟩
  · refine doc_err h2 (by decide) ?_
    unfold rfCode
    rw [hrc, ← hm, h1]
    rfl
  · refine doc_err h3 (by decide) ?_
    unfold rfCode
    rw [hrc, ← hm, h1, if_pos rfl, if_pos rfl, ← leaf_both hk, h2]
    rfl
  · have hlr : leafR 2 ⟨op, col, args⟩ = true := by rw [← leaf_both hk]; exact h2
    have hall : args.all (isVal 2) = true := by unfold leafR at hlr; simp only [Bool.and_eq_true] at hlr; exact hlr.2
    have hok : rOk 2 n xs = true := by rw [← hm]; exact h1
    refine doc_says h3 rfl ?_ (fun r hr => ?_) (fun r hr => ?_)
    · unfold rfCode
      rw [hrc, hok, if_pos rfl, if_pos rfl, if_pos hlr]
    · obtain ⟨c1, c2⟩ := cells_S hn hok hr
      unfold rfV filT_S
      rw [leafV_two, show (2 : Int).toNat = 2 from rfl, c1, args_two hall]
      cases hb : bitOf (headOf n xs).nulls r
      · rw [c2 hb]
      · simp
    · obtain ⟨c1, c2⟩ := cells_S hn hok hr
      unfold rfV filU
      rw [leafV_one, c1]
theorem FilterM_any (w : World) (v av : Value) (xs : List Nat) (kind rows op col : Int) (args : List C3) (hT : Tab w) (hv : Rd w v xs.length 1 (u8s xs)) (hb : ∀ x ∈ xs, x < 256) (hl : xs.length ≤ 16777216)
    (hx : Rd w av args.length 3 (cells3 args)) (hal : args.length ≤ 1048576) (har : ∀ c ∈ args, okI c.i) :
    Calls Tryz.prog 9 #[.int .i64 kind, .int .i64 rows, v, .agg #[.int .i64 op, .int .i64 col, av]] w fun e w' => FilDoc kind rows xs op col args w e w' := by
  refine (Filter_any w v av xs kind rows op col args hT hv hb hl hx hal har (fun n h1 h2 h3 => filD_I n xs hb hl h2 h3) (fun n h1 h2 h3 => filD_S n xs hb hl h2 h3)).mono ?_
  rintro e w' (⟨h1, h2⟩ | ⟨rfl, n, rfl, hn, h⟩ | ⟨rfl, n, rfl, hn, h⟩)
  · refine doc_err h2 (by decide) ?_
    unfold rfCode refCode
    rw [h1]
    rfl
  · exact filM_I hn h
  · exact filM_S hn h
end Go.Proofs.YthonbfojpbfmgaaGreatDoor

/- Mathematics of the round trip: the head, the cells, the whole body. -/
set_option linter.unusedVariables false
set_option linter.unusedSimpArgs false
set_option linter.unnecessarySimpa false
set_option maxRecDepth 100000
namespace Go.Proofs.YthonbfojpbfmgaaGreatDoor
open Go.RowKit

theorem getD_mem3 {cs : List C3} {i : Nat} (h : i < cs.length) : cs.getD i C3.df ∈ cs := by
  have : cs.getD i C3.df = cs[i] := by simp [List.getD, List.getElem?_eq_getElem h]
  rw [this]; exact List.getElem_mem h
theorem rN_words (n : Nat) : L.nWords 1 n = rN n := by
  rw [L.nWords_pos (by decide)]; unfold rN; rfl
theorem head_at {xs pay : List Nat} {a b : Nat} {cs : List C3} (hl : cs.length ≤ 65536) (h : xs = ([a, b] ++ le8 (bmL (cs.map C3.n))) ++ pay) :
    rWs cs.length xs = bmL (cs.map C3.n) ∧ rHd cs.length xs = true ∧ xs.getD 0 0 = a ∧ xs.getD 1 0 = b ∧ xs.drop (2 + 8 * rN cs.length) = pay ∧ 2 + 8 * rN cs.length ≤ xs.length := by
  have hb := bmL_isBm (cs.map C3.n)
  have hm : (bmL (cs.map C3.n)).length = rN cs.length := by rw [hb.1, List.length_map, rN_words]
  have hd : xs.drop 2 = le8 (bmL (cs.map C3.n)) ++ pay := by rw [h]; rfl
  have hx : xs.length = 2 + 8 * rN cs.length + pay.length := by
    rw [h, List.length_append, List.length_append, le8_len, hm]; rfl
  have hn := nums_at (by decide) (by omega) hd (fun x hx => by rw [p64]; exact hb.2.1 x hx)
  rw [hm] at hn
  have hw : rWs cs.length xs = bmL (cs.map C3.n) := hn.2
  refine ⟨hw, ?_, by rw [h]; rfl, by rw [h]; rfl, ?_, by omega⟩
  · unfold rHd
    rw [hn.1, hw, Bool.true_and]
    have hp := L.pack_isPack (w := 1) (by omega) ((cs.map C3.n).map Bool.toNat) (toNat_lt _)
    rw [List.length_map, List.length_map] at hp
    exact (okPack_nat (wd := 1) (n := cs.length) _ (by decide) hl).2 hp
  · exact drop_app hd (by rw [le8_len, hm])
theorem bit_at (cs : List C3) (i : Nat) (h : i < cs.length) : bitOf (bmL (cs.map C3.n)) i = (cs.getD i C3.df).n := by
  have hb := bmL_isBm (cs.map C3.n)
  have h1 := hb.1
  rw [List.length_map, rN_words] at h1
  have h2 := hb.2.2 i (by rw [h1]; unfold rN; omega)
  rw [h2, List.length_map, decide_eq_true h, Bool.true_and]
  simp [List.getD, List.getElem?_eq_getElem h]
theorem rank_vals (cs : List C3) : ∀ t, t ≤ cs.length → rankN (bmL (cs.map C3.n)) t + (valsOf (cs.take t)).length = t := by
  intro t
  induction t with
  | zero => intro _; simp [rankN, valsOf]
  | succ t ih =>
    intro h
    have h1 := ih (by omega)
    rw [rankN_succ, bit_at cs t (by omega), take_snoc cs C3.df t (by omega), valsOf_snoc, List.length_append]
    cases (cs.getD t C3.df).n <;> simp <;> omega
theorem valsOf_app (a b : List C3) : valsOf (a ++ b) = valsOf a ++ valsOf b := by simp [valsOf]
theorem valsOf_cons (c : C3) (r : List C3) : valsOf (c :: r) = (if c.n = true then [] else [(c.i, c.s)]) ++ valsOf r := by
  have := valsOf_app [c] r
  rw [List.singleton_append] at this
  rw [this]
  congr 1
  unfold valsOf
  cases h : c.n <;> simp [h]
theorem val_at (cs : List C3) (r : Nat) (h : r < cs.length) (hn : (cs.getD r C3.df).n = false) : (valsOf cs).getD (r - rankN (bmL (cs.map C3.n)) r) dfP = ((cs.getD r C3.df).i, (cs.getD r C3.df).s) := by
  have h1 := rank_vals cs r (by omega)
  have e : cs = cs.take r ++ (cs.getD r C3.df :: cs.drop (r + 1)) := by
    simp only [List.getD, List.getElem?_eq_getElem h, Option.getD_some]
    rw [← List.drop_eq_getElem_cons h, List.take_append_drop]
  have h2 : valsOf cs = valsOf (cs.take r) ++ (((cs.getD r C3.df).i, (cs.getD r C3.df).s) :: valsOf (cs.drop (r + 1))) := by
    conv => lhs; rw [e]
    rw [valsOf_app, valsOf_cons, hn]; rfl
  rw [h2]
  have h3 : r - rankN (bmL (cs.map C3.n)) r = (valsOf (cs.take r)).length := by omega
  rw [h3]
  simp [List.getD]
/-- a NULL has nothing in its other fields -/
def nullOk (c : C3) : Prop := c.n = true → c.i = 0 ∧ c.s = ByteArray.empty
theorem ofK_null {k : Int} {c : C3} (h : ofK k c = true) : nullOk c := by
  intro hn
  unfold ofK at h
  rw [if_pos hn] at h
  simp only [Bool.and_eq_true, decide_eq_true_eq, List.isEmpty_iff] at h
  refine ⟨h.2.1, ?_⟩
  have h1 := h.2.2
  rw [ByteArray.toList_eq] at h1
  obtain ⟨n, i, ⟨s⟩⟩ := c
  simp only at h1 ⊢
  rw [show s = #[] from Array.toList_inj.1 h1]; rfl
theorem cell_at (cs : List C3) (r : Nat) (h : r < cs.length) (hz : nullOk (cs.getD r C3.df)) :
    cA (bmL (cs.map C3.n)) r = (cs.getD r C3.df).n ∧ cB (bmL (cs.map C3.n)) (valsOf cs) r = (cs.getD r C3.df).i ∧ cC (bmL (cs.map C3.n)) (valsOf cs) r = (cs.getD r C3.df).s := by
  have hb := bit_at cs r h
  unfold cA cB cC
  rw [hb]
  cases hn : (cs.getD r C3.df).n with
  | true => obtain ⟨h1, h2⟩ := hz hn; exact ⟨rfl, by rw [if_pos rfl, h1], by rw [if_pos rfl, h2]⟩
  | false => rw [val_at cs r h hn]; simp
theorem cellsUp_eq (A : Nat → Bool) (B : Nat → Int) (C : Nat → ByteArray) (ds : List C3) : ∀ t, t ≤ ds.length → (∀ i, i < t → A i = (ds.getD i C3.df).n ∧ B i = (ds.getD i C3.df).i ∧ C i = (ds.getD i C3.df).s) → cellsUp A B C t = cells3 (ds.take t) := by
  intro t
  induction t with
  | zero => intro _ _; rfl
  | succ t ih =>
    intro h1 h2
    rw [cellsUp, ih (by omega) (fun i hi => h2 i (by omega)), take_snoc ds C3.df t (by omega), cells3_snoc]
    obtain ⟨e1, e2, e3⟩ := h2 t (by omega)
    rw [e1, e2, e3]
theorem vals_ok {kd : Nat} {cs : List C3} (hkd : kd = 1 ∨ kd = 2) (hall : cs.all (ofK kd) = true) (hI : ∀ x ∈ cs, okI x.i) : ∀ v ∈ valsOf cs, okV kd v := by
  intro v hv
  unfold valsOf at hv
  obtain ⟨c, hc, rfl⟩ := List.mem_map.1 hv
  obtain ⟨h1, h2⟩ := List.mem_filter.1 hc
  have h3 := List.all_eq_true.1 hall c h1
  unfold ofK at h3
  rw [if_neg (by simpa using h2)] at h3
  unfold okV
  rcases hkd with rfl | rfl
  · rw [if_pos (by rfl), List.isEmpty_iff] at h3
    rw [if_pos rfl]
    refine ⟨hI c h1, ?_⟩
    rw [ByteArray.toList_eq] at h3
    obtain ⟨n, i, ⟨s⟩⟩ := c
    simp only at h3 ⊢
    rw [show s = #[] from Array.toList_inj.1 h3]; rfl
  · rw [if_neg (by decide)] at h3
    rw [if_neg (by decide)]
    simp only [decide_eq_true_eq] at h3
    exact ⟨h3.2.1, h3.2.2⟩
/-- what was encoded stands for the cells -/
theorem body_back {k c wd : Int} {cs : List C3} (hok : encCode k c wd cs = 0) (hI : ∀ x ∈ cs, okI x.i) (hs : sumT (valsOf cs) < 4294967296) :
    isKind k = true ∧ isRows cs.length = true ∧ rOk k.toNat cs.length (encB k c wd cs) = true ∧ rWs cs.length (encB k c wd cs) = bmL (cs.map C3.n) ∧ (rPay k.toNat cs.length (encB k c wd cs)).2 = valsOf cs ∧ cs.all (ofK k) = true := by
  unfold encCode at hok
  split at hok
  · omega
  · rename_i hbad
    split at hok
    · rename_i hp
      unfold encBad at hbad
      simp only [Bool.or_eq_true, Bool.not_eq_true', decide_eq_true_eq, not_or, Bool.not_eq_false] at hbad
      obtain ⟨⟨hc, hl⟩, hall⟩ := hbad
      obtain ⟨pw, hpw, hp64⟩ := payW_nat k c wd (valsOf cs) hc
      obtain ⟨kd, cn, rfl, rfl, hkd, hc1, hc5⟩ := isCodec_nat k c wd hc
      simp only [Int.toNat_natCast] at hp hpw ⊢
      have hB : encB kd cn wd cs = ([cn, pw] ++ le8 (bmL (cs.map C3.n))) ++ payB kd cn wd (valsOf cs) := by
        unfold encB; simp only [Int.toNat_natCast]; rw [hpw, Int.toNat_natCast]
      obtain ⟨h1, h2, h3, h4, h5, h6⟩ := head_at (by omega) hB
      generalize encB kd cn wd cs = xs at *
      have hk : rK cs.length xs = (valsOf cs).length := by
        unfold rK
        rw [h1]
        have := rank_vals cs cs.length (Nat.le_refl _)
        rw [List.take_length] at this; omega
      have hpay : rPay kd cs.length xs = (true, valsOf cs) := by
        unfold rPay
        rw [h3, h4, hk]
        exact pay_at hkd hc hpw h6 h5 hp (vals_ok hkd hall hI) hs (by have := valsOf_len cs; omega)
      refine ⟨?_, ?_, ?_, h1, by rw [hpay], hall⟩
      · unfold isKind; exact decide_eq_true (by omega)
      · unfold isRows; exact decide_eq_true (by omega)
      · unfold rOk
        rw [h2, hpay, hk]; simp
    · omega
theorem decode_back {k c wd : Int} {cs : List C3} (hok : encCode k c wd cs = 0) (hI : ∀ x ∈ cs, okI x.i) (hs : sumT (valsOf cs) < 4294967296) :
    refCode k cs.length (encB k c wd cs) = 0 ∧ refLen k cs.length (encB k c wd cs) = cs.length ∧ refCells k cs.length (encB k c wd cs) = cells3 cs := by
  obtain ⟨h1, h2, h3, h4, h5, h6⟩ := body_back hok hI hs
  have h0 : refCode k cs.length (encB k c wd cs) = 0 := by
    unfold refCode
    rw [h1, h2, Int.toNat_natCast, h3]; rfl
  refine ⟨h0, ?_, ?_⟩
  · unfold refLen; rw [if_pos h0, Int.toNat_natCast]
  · unfold refCells
    rw [if_pos h0, Int.toNat_natCast]
    unfold rCells
    rw [h4, h5]
    have := cellsUp_eq (cA (bmL (cs.map C3.n))) (cB (bmL (cs.map C3.n)) (valsOf cs)) (cC (bmL (cs.map C3.n)) (valsOf cs)) cs cs.length (Nat.le_refl _) (fun i hi => cell_at cs i hi (ofK_null (List.all_eq_true.1 h6 _ (getD_mem3 hi))))
    rwa [List.take_length] at this
theorem leN_mem {k n x : Nat} (h : x ∈ leN k n) : x < 256 := leN_lt k n x h
theorem flat_mem {k : Nat} {ns : List Nat} : ∀ x ∈ ns.flatMap (leN k), x < 256 := by
  intro x hx
  obtain ⟨n, _, h⟩ := List.mem_flatMap.1 hx
  exact leN_mem h
theorem listB_lt (kd : Nat) (vs : List PV) : ∀ x ∈ listB kd vs, x < 256 := by
  intro x hx
  unfold listB at hx
  rcases List.mem_append.1 hx with h | h
  · unfold headB at h
    split at h
    · exact flat_mem x h
    · exact flat_mem x h
  · unfold textB at h
    obtain ⟨s, _, h⟩ := List.mem_flatMap.1 h
    exact sbs_lt s x h
theorem payB_lt (kd cn : Nat) (wd : Int) (vs : List PV) : ∀ x ∈ payB kd cn wd vs, x < 256 := by
  intro x hx
  unfold payB at hx
  split at hx
  · unfold dictB at hx
    rcases List.mem_append.1 hx with h | h
    · rcases List.mem_append.1 h with h | h
      · exact leN_mem h
      · exact listB_lt _ _ x h
    · exact flat_mem x h
  · split at hx
    · unfold runsB at hx
      rcases List.mem_append.1 hx with h | h
      · rcases List.mem_append.1 h with h | h
        · exact leN_mem h
        · exact flat_mem x h
      · exact listB_lt _ _ x h
    · split at hx
      · unfold frameB at hx
        rcases List.mem_append.1 hx with h | h
        · exact leN_mem h
        · exact flat_mem x h
      · split at hx
        · exact flat_mem x hx
        · exact listB_lt _ _ x hx
theorem listB_len2 (kd : Nat) (vs : List PV) : (listB kd vs).length ≤ 8 * vs.length + sumT vs := by
  unfold listB
  rw [List.length_append, textB_len]
  have := headB_len kd vs
  unfold sumT; omega
theorem packR_len2 (wd : Int) (xs : List Nat) : (packR wd xs).length ≤ xs.length := by
  unfold packR
  split
  · rename_i h
    obtain ⟨h1, h2⟩ := (okVals_iff wd xs).1 h
    rw [L.packL_length]
    exact L.nWords_le (by omega)
  · simp
theorem payB_len2 (kd cn : Nat) (wd : Int) (vs : List PV) : (payB kd cn wd vs).length ≤ 2064 + 12 * vs.length + sumT vs := by
  unfold payB
  split
  · unfold dictB
    have h1 := listB_len2 kd (diffP vs)
    have h2 := packR_len2 (needN (diffP vs).length : Nat) (lanesD vs)
    have h3 := diffP_len vs
    have h4 := diffP_sum vs
    have h5 : (lanesD vs).length = vs.length := by unfold lanesD; rw [List.length_map]
    rw [List.length_append, List.length_append, leN_length, le8_len]; omega
  · split
    · unfold runsB
      have h1 := listB_len2 kd (runHeads vs vs.length)
      have h2 := runHeads_len vs vs.length
      have h3 := runEndsL_len vs vs.length
      have h4 := runHeads_sum vs
      rw [List.length_append, List.length_append, leN_length, le4N_len]; omega
    · split
      · unfold frameB
        have h2 := packR_len2 wd (lanesF (toU (minP vs).1) vs)
        have h5 : (lanesF (toU (minP vs).1) vs).length = vs.length := by unfold lanesF; rw [List.length_map]
        rw [List.length_append, leN_length, le8_len]; omega
      · split
        · unfold packedB
          have h2 := packR_len2 wd (lanesK vs)
          have h5 : (lanesK vs).length = vs.length := by unfold lanesK; rw [List.length_map]
          rw [le8_len]; omega
        · have := listB_len2 kd vs; omega
/-- the body is a list of bytes, and not too long -/
theorem encB_bytes {k c wd : Int} {cs : List C3} (hok : encCode k c wd cs = 0) (hs : sumT (valsOf cs) ≤ 1048576) : (∀ x ∈ encB k c wd cs, x < 256) ∧ (encB k c wd cs).length ≤ 16777216 := by
  unfold encCode at hok
  split at hok
  · omega
  · rename_i hbad
    unfold encBad at hbad
    simp only [Bool.or_eq_true, Bool.not_eq_true', decide_eq_true_eq, not_or, Bool.not_eq_false] at hbad
    obtain ⟨⟨hc, hl⟩, hall⟩ := hbad
    obtain ⟨pw, hpw, hp64⟩ := payW_nat k c wd (valsOf cs) hc
    obtain ⟨kd, cn, rfl, rfl, hkd, hc1, hc5⟩ := isCodec_nat k c wd hc
    unfold encB
    simp only [Int.toNat_natCast] at hpw ⊢
    rw [hpw, Int.toNat_natCast]
    constructor
    · intro x hx
      rcases List.mem_append.1 hx with h | h
      · rcases List.mem_append.1 h with h | h
        · simp only [List.mem_cons, List.not_mem_nil, or_false] at h; omega
        · exact flat_mem x h
      · exact payB_lt _ _ _ _ x h
    · have h1 := payB_len2 kd cn wd (valsOf cs)
      have h2 := valsOf_len cs
      have h3 := bmL_len (cs.map C3.n)
      rw [List.length_map, rN_words] at h3
      unfold rN at h3
      rw [List.length_append, List.length_append, le8_len, h3]
      simp only [List.length_cons, List.length_nil]
      omega
end Go.Proofs.YthonbfojpbfmgaaGreatDoor

/- LawKernel: what the filter of an encoded chunk answers, cell by cell. -/
set_option linter.unusedVariables false
set_option linter.unusedSimpArgs false
set_option linter.unnecessarySimpa false
set_option maxRecDepth 100000
namespace Go.Proofs.YthonbfojpbfmgaaGreatDoor
open Go.RowKit

theorem up_cells {A : Nat → Bool} {B : Nat → Int} {C : Nat → ByteArray} {cs : List C3} (h : cellsUp A B C cs.length = cells3 cs) : ∀ i, i < cs.length → A i = (cs.getD i C3.df).n ∧ B i = (cs.getD i C3.df).i ∧ C i = (cs.getD i C3.df).s := by
  intro i hi
  obtain ⟨g0, g1, g2⟩ := cellsUp_get A B C cs.length i hi
  obtain ⟨k0, k1, k2⟩ := cells3_get cs i hi
  rw [h] at g0 g1 g2
  rw [k0] at g0
  rw [k1] at g1
  rw [k2] at g2
  injection g0 with g0
  injection g1 with g1
  injection g2 with g2
  injection g0 with g0
  injection g1 with _ g1
  injection g2 with g2
  exact ⟨g0.symm, g1.symm, g2.symm⟩
theorem argsK_ok {kind op : Int} {a b : C3} (ho : 1 ≤ op ∧ op ≤ 8) (ha : isVal kind a = true) (hb : isVal kind b = true) : leafR kind ⟨op, 0, argsK op a b⟩ = true := by
  have hoo : op = 1 ∨ op = 2 ∨ op = 3 ∨ op = 4 ∨ op = 5 ∨ op = 6 ∨ op = 7 ∨ op = 8 := by omega
  unfold leafR argsK takesB
  rcases hoo with rfl | rfl | rfl | rfl | rfl | rfl | rfl | rfl <;> simp [ha, hb]
theorem getD_mem {cs : List C3} {i : Nat} (h : i < cs.length) : cs.getD i C3.df ∈ cs := by
  simp [List.getD, h]
theorem ask_bits {kind op : Int} {a b : C3} {cs : List C3} {xs : List Nat} (hk : isKind kind = true) (ho : 1 ≤ op ∧ op ≤ 8) (ha : isVal kind a = true) (hb : isVal kind b = true) (hl : cs.length ≤ 65536) (hc : cs.all (ofK kind) = true)
    (h1 : refCode kind cs.length xs = 0) (h2 : refCells kind cs.length xs = cells3 cs) : rfCode kind cs.length op 0 (argsK op a b) xs = 0 ∧
      (rfZ kind cs.length op 0 (argsK op a b) xs 2).length = (cs.length + 63) / 64 ∧ (rfZ kind cs.length op 0 (argsK op a b) xs 1).length = (cs.length + 63) / 64 ∧
      (∀ x ∈ rfZ kind cs.length op 0 (argsK op a b) xs 2, x < 18446744073709551616) ∧ (∀ x ∈ rfZ kind cs.length op 0 (argsK op a b) xs 1, x < 18446744073709551616) ∧
      ∀ i, i < cs.length → bitOf (rfZ kind cs.length op 0 (argsK op a b) xs 2) i = (!(cs.getD i C3.df).n && hldB op (cs.getD i C3.df) a b) ∧ bitOf (rfZ kind cs.length op 0 (argsK op a b) xs 1) i = (cs.getD i C3.df).n := by
  have hlr := argsK_ok ho ha hb
  have h0 : rfCode kind cs.length op 0 (argsK op a b) xs = 0 := by unfold rfCode; rw [if_pos h1, if_pos hlr]
  have hu : rCells kind.toNat cs.length xs = cells3 cs := by rw [← h2]; unfold refCells; rw [if_pos h1, Int.toNat_natCast]
  unfold rCells at hu
  have hup := up_cells hu
  have hz : ∀ t, rfZ kind cs.length op 0 (argsK op a b) xs t = bmL (rfB kind.toNat cs.length op (argsK op a b) xs t cs.length) := fun t => by unfold rfZ; rw [if_pos h0, Int.toNat_natCast]
  have hlen : ∀ t, (bmL (rfB kind.toNat cs.length op (argsK op a b) xs t cs.length)).length = (cs.length + 63) / 64 := fun t => by rw [(bmL_isBm _).1, rfB_len, nWords1k]
  have hbit : ∀ t i, i < cs.length → bitOf (bmL (rfB kind.toNat cs.length op (argsK op a b) xs t cs.length)) i = decide (rfV kind.toNat cs.length op (argsK op a b) xs i = t) := fun t i hi => by
    rw [(bmL_isBm _).2.2 i (by rw [hlen]; omega), rfB_len, decide_eq_true hi, Bool.true_and]
    exact rfB_get _ _ _ _ _ _ _ _ hi
  rw [hz 2, hz 1]
  refine ⟨h0, hlen 2, hlen 1, (bmL_isBm _).2.1, (bmL_isBm _).2.1, fun i hi => ?_⟩
  rw [hbit 2 i hi, hbit 1 i hi]
  obtain ⟨u1, u2, u3⟩ := hup i hi
  have hof : ofK kind (cs.getD i C3.df) = true := List.all_eq_true.1 hc _ (getD_mem hi)
  unfold rfV
  rw [leafV_two, leafV_one, if_neg (by omega), if_neg (by omega), u1, u2, u3]
  refine ⟨?_, rfl⟩
  cases hn : (cs.getD i C3.df).n
  · rw [Bool.not_false, Bool.true_and, Bool.true_and]
    exact leaf_hold hk ho (by unfold isVal; rw [hn, hof]; rfl) ha hb
  · rfl
end Go.Proofs.YthonbfojpbfmgaaGreatDoor

/- LawKernel: the cells that the law makes, and the codec that it asks for. -/
set_option linter.unusedVariables false
set_option linter.unusedSimpArgs false
set_option linter.unnecessarySimpa false
set_option maxRecDepth 100000
namespace Go.Proofs.YthonbfojpbfmgaaGreatDoor
open Go.RowKit

theorem fitting_any (kind : Int) (n : Nat) (pick : Nat) (w : World) : Calls Tryz.prog 43 #[.int .i64 kind, .int .i64 n, .int .i64 pick] w fun e w' => e = .returned (.tuple #[.int .i64 (fitC kind n pick).1, .int .i64 (fitC kind n pick).2]) ∧ w' = w := by
  obtain ⟨m, hm⟩ : ∃ m, pick % 4 = m := ⟨_, rfl⟩
  have hm4 : m < 4 := by omega
  have hmi : (pick : Int) % 4 = (m : Int) := by omega
  have hmt : Int.tmod (pick : Int) 4 = (m : Int) := by rw [Int.tmod_eq_emod_of_nonneg (by omega)]; exact hmi
  unfold fitC
  rw [hm]
  go_enter Tryz.func43, Tryz.ntmps43
  have hmm : m = 0 ∨ m = 1 ∨ m = 2 ∨ m = 3 := by omega
  rcases hmm with rfl | rfl | rfl | rfl
  · rw [if_neg (by omega), if_neg (by omega), if_neg (by omega)]
    go_wp2_with fail
    go_ret2
    exact ⟨rfl, rfl⟩
  · by_cases h : n ≤ 256
    · have hi : (n : Int) ≤ 256 := by omega
      rw [if_pos ⟨rfl, h⟩]
      go_wp2_with fail
      go_ret2
      exact ⟨rfl, rfl⟩
    · have hi : ¬ (n : Int) ≤ 256 := by omega
      rw [if_neg (by omega), if_neg (by omega), if_neg (by omega)]
      go_wp2_with fail
      go_ret2
      exact ⟨rfl, rfl⟩
  · rw [if_neg (by omega), if_pos rfl]
    go_wp2_with fail
    go_ret2
    exact ⟨rfl, rfl⟩
  · by_cases h : kind = 1
    · subst h
      rw [if_neg (by omega), if_neg (by omega), if_pos ⟨rfl, rfl⟩]
      go_wp2_with fail
      go_ret2
      exact ⟨rfl, rfl⟩
    · have hk : (kind == 1) = false := by simp [h]
      rw [if_neg (by omega), if_neg (by omega), if_neg (by omega)]
      go_wp2_with fail
      go_ret2
      exact ⟨rfl, rfl⟩
end Go.Proofs.YthonbfojpbfmgaaGreatDoor
