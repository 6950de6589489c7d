/- The plain answer: Encode. -/
import Derived.Test.YthonbfojpbfmgaaGreatDoorLawfilteruptoB16
import Derived.Test.YthonbfojpbfmgaaGreatDoorLawfilteruptoB10
import Derived.Test.YthonbfojpbfmgaaGreatDoorLawfilteruptoB8
import Derived.Test.YthonbfojpbfmgaaGreatDoorLawfilteruptoB15
import Derived.Deep.CutBlock
import Derived.Deep.QuietTactic
import Derived.Deep.RegionHeld3
import Derived.Deep.CutRange
import Derived.BigQuiet
import Derived.BigRegion
set_option linter.unusedVariables false
set_option linter.unusedSimpArgs false
set_option linter.unnecessarySimpa false
set_option maxRecDepth 100000
namespace Go.Proofs.YthonbfojpbfmgaaGreatDoor
open Go.RowKit

end Go.Proofs.YthonbfojpbfmgaaGreatDoor

/- Mathematics of the round trip: numbers, lists, lanes, read where they were put. -/
set_option linter.unusedVariables false
set_option linter.unusedSimpArgs false
set_option linter.unnecessarySimpa false
set_option maxRecDepth 100000
namespace Go.Proofs.YthonbfojpbfmgaaGreatDoor
open Go.RowKit

/-- a value that fits 64 bits -/
def okI (x : Int) : Prop := -9223372036854775808 ≤ x ∧ x ≤ 9223372036854775807
end Go.Proofs.YthonbfojpbfmgaaGreatDoor

/- Mathematics of the round trip: dictionaries, runs, frames. -/
set_option linter.unusedVariables false
set_option linter.unusedSimpArgs false
set_option linter.unnecessarySimpa false
set_option maxRecDepth 100000
namespace Go.Proofs.YthonbfojpbfmgaaGreatDoor
open Go.RowKit

/-- the runs among the first t values: where the last ends, and what they stand for -/
structure RunInv (vs : List PV) (t l : Nat) : Prop where
  up : endsUp 0 (nI (runEndsL vs t)) = some (l : Int)
  fill : fillP (runHeads vs t) (runEndsL vs t) (runEndsL vs t).length = vs.take l
  alike : ∀ m, l ≤ m → m < t → m + 1 < vs.length ∧ vs.getD m dfP = vs.getD (m + 1) dfP
  nop : noPair eqP (runHeads vs t) = true
  le : l ≤ t
  last : ∀ x, (runHeads vs t).getLast? = some x → l < vs.length → x ≠ vs.getD l dfP
end Go.Proofs.YthonbfojpbfmgaaGreatDoor

/- Leaves: what a leaf is for a value. -/
set_option linter.unusedVariables false
set_option linter.unusedSimpArgs false
set_option linter.unnecessarySimpa false
set_option maxRecDepth 100000
namespace Go.Proofs.YthonbfojpbfmgaaGreatDoor
open Go.RowKit

/-- is the leaf (other than OpIsNull) TRUE for the value? -/
def leafT (op : Int) (ls : List PV) (v : PV) : Bool :=
  if op = 7 then ls.any (fun a => eqP v a) else if op = 8 then decide (0 ≤ ordP v (ls.getD 0 dfP)) && decide (ordP v (ls.getD 1 dfP) ≤ 0) else standsS op (ordP v (ls.getD 0 dfP))
/-- the literals of a leaf, as the code keeps them -/
def litsI (op : Int) (xs : List Int) : List Int := if op = 7 then dictI xs else xs
def litsS (op : Int) (xs : List ByteArray) : List ByteArray := if op = 7 then dictS xs else xs
theorem any_mem {az bs : List PV} (h : ∀ x, x ∈ az ↔ x ∈ bs) (f : PV → Bool) : az.any f = bs.any f := by
  rw [Bool.eq_iff_iff, List.any_eq_true, List.any_eq_true]
  exact ⟨fun ⟨x, h1, h2⟩ => ⟨x, (h x).1 h1, h2⟩, fun ⟨x, h1, h2⟩ => ⟨x, (h x).2 h1, h2⟩⟩
theorem leafT_litsI (op : Int) (xs : List Int) (v : PV) : leafT op ((litsI op xs).map pI) v = leafT op (xs.map pI) v := by
  unfold litsI
  by_cases h : op = 7
  · subst h
    rw [if_pos rfl]
    unfold leafT
    rw [if_pos rfl, if_pos rfl]
    exact any_mem (dictI_mem xs) _
  · rw [if_neg h]
theorem leafT_litsS (op : Int) (xs : List ByteArray) (v : PV) : leafT op ((litsS op xs).map pS) v = leafT op (xs.map pS) v := by
  unfold litsS
  by_cases h : op = 7
  · subst h
    rw [if_pos rfl]
    unfold leafT
    rw [if_pos rfl, if_pos rfl]
    exact any_mem (dictS_spec xs).2 _
  · rw [if_neg h]
/-- what the code's test is handed for a leaf that is well-typed -/
def litsOk (op : Int) (n : Nat) : Prop := 1 ≤ op ∧ op ≤ 8 ∧ (op ≤ 6 → n = 1) ∧ (op = 8 → n = 2)
end Go.Proofs.YthonbfojpbfmgaaGreatDoor

/- Leaves: which are well-typed for a kind, in the code and in the document. -/
set_option linter.unusedVariables false
set_option linter.unusedSimpArgs false
set_option linter.unnecessarySimpa false
set_option maxRecDepth 100000
namespace Go.Proofs.YthonbfojpbfmgaaGreatDoor
open Go.RowKit

/-- a node: its op, its column, its literals -/
structure Nd where
  op : Int
  col : Int
  args : List C3
def Nd.df : Nd := ⟨0, 0, []⟩
def isVal (k : Int) (c : C3) : Bool := !c.n && ofK k c
set_option maxHeartbeats 1000000 in
theorem isValue_any (c : C3) (k : Int) (w : World) : Calls Tryz.prog 86 #[.int .i64 k, c.v] w fun e w' => e = .returned (.bool (isVal k c)) ∧ Below w.heap.size w w' := by
  have HK := hid (fun w2 : World => ofKind_any c k w2)
  unfold isVal
  generalize ofK k c = kk at *
  obtain ⟨b, i, s⟩ := c
  unfold C3.v at *
  simp only at *
  go_enter Tryz.func86, Tryz.ntmps86
  cases b
  · go_wp2_with (go_at_call 131; refine (HK.out _).mono ?_; rintro e w1 ⟨rfl, hb1⟩; have HB := hid hb1; clear hb1)
    go_ret
    exact ⟨ret_bool (by simp), ((brefl w).alloc (Nat.le_refl _) _).trans (HB.out.mono (by simp))⟩
  · go_wp2
    go_ret
    exact ⟨ret_bool (by simp), (brefl w).alloc (Nat.le_refl _) _⟩
set_option maxHeartbeats 1000000 in
theorem refIsValue_any (c : C3) (k : Int) (w : World) : Calls Tryz.prog 62 #[c.v, .int .i64 k] w fun e w' => e = .returned (.bool (isVal k c)) ∧ Below w.heap.size w w' := by
  have HK := hid (fun w2 : World => refOfKind_any c k w2)
  unfold isVal
  generalize ofK k c = kk at *
  obtain ⟨b, i, s⟩ := c
  unfold C3.v at *
  simp only at *
  go_enter Tryz.func62, Tryz.ntmps62
  cases b
  · go_wp2_with (go_at_call 116; refine (HK.out _).mono ?_; rintro e w1 ⟨rfl, hb1⟩; have HB := hid hb1; clear hb1)
    go_ret
    exact ⟨ret_bool (by simp), ((brefl w).alloc (Nat.le_refl _) _).trans (HB.out.mono (by simp))⟩
  · go_wp2
    go_ret
    exact ⟨ret_bool (by simp), (brefl w).alloc (Nat.le_refl _) _⟩
theorem cell3 {w : World} {g : Nat} {e : TypeId} {a b c : Value} (h : Row w g e [a, b, c]) : w.cell? ⟨g, 0, none⟩ = some a ∧ w.cell? ⟨g, 1, none⟩ = some b ∧ w.cell? ⟨g, 2, none⟩ = some c := ⟨by rw [h.cell]; rfl, by rw [h.cell]; rfl, by rw [h.cell]; rfl⟩
/-- a variable of a call's own, laid and filled at once -/
theorem cellP {w : World} {g : Nat} {e : TypeId} {a b : Value} (h : Row w g e [a, b]) : w.cell? ⟨g, 0, none⟩ = some a ∧ w.cell? ⟨g, 1, none⟩ = some b := ⟨by rw [h.cell]; rfl, by rw [h.cell]; rfl⟩
theorem fresh {w : World} {C : Array Value} {e : TypeId} : Row (w.alloc (.cells C e)) w.heap.size e C.toList ∧ Below w.heap.size w (w.alloc (.cells C e)) := by
  refine ⟨?_, (brefl w).alloc (Nat.le_refl _) _⟩
  unfold Row; rw [heap_alloc_new]
theorem all_at {α : Type} {L : List α} {p : α → Bool} (d : α) (k : Nat) (h : L.all p = true) (hk : k < L.length) : p (L.getD k d) = true := by
  rw [List.all_eq_true] at h
  exact h _ (by simp [List.getD, List.getElem?_eq_getElem hk])
theorem all_of {α : Type} {L : List α} {p : α → Bool} (d : α) (h : ∀ k, k < L.length → p (L.getD k d) = true) : L.all p = true := by
  rw [List.all_eq_true]
  intro x hx
  obtain ⟨k, hk, rfl⟩ := List.getElem_of_mem hx
  have := h k hk
  simpa [List.getD, List.getElem?_eq_getElem hk] using this
theorem all_not {α : Type} {L : List α} {p : α → Bool} (d : α) (k : Nat) (hk : k < L.length) (h : p (L.getD k d) = false) : L.all p = false := by
  rw [← Bool.not_eq_true]
  intro h2
  rw [all_at d k h2 hk] at h
  cases h
def takesB (op : Int) (n : Nat) : Bool := if op = 7 then decide (n ≤ 1024) else if op = 8 then decide (n = 2) else if op = 9 then decide (n = 0) else decide (1 ≤ op ∧ op ≤ 6) && decide (n = 1)
set_option maxHeartbeats 2000000 in
theorem takes_any (op : Int) (n : Nat) (w : World) : Calls Tryz.prog 85 #[.int .i64 op, .int .i64 n] w fun e w' => e = .returned (.bool (takesB op n)) ∧ w' = w := by
  obtain ⟨R, hR⟩ : ∃ R, takesB op n = R := ⟨_, rfl⟩
  rw [hR]
  unfold takesB at hR
  have HR := hid hR
  clear hR
  go_enter Tryz.func85, Tryz.ntmps85
  by_cases h7 : op = 7
  · subst h7
    by_cases h : n ≤ 1024
    · obtain rfl : R = true := by rw [← HR.out]; simp [h]
      go_wp2_with fail
      go_ret
      exact ⟨ret_bool (by simp; omega), rfl⟩
    · obtain rfl : R = false := by rw [← HR.out]; simp [h]
      go_wp2_with fail
      go_ret
      exact ⟨ret_bool (by simp; omega), rfl⟩
  by_cases h8 : op = 8
  · subst h8
    obtain rfl : R = decide (n = 2) := by rw [← HR.out]; simp
    go_wp2_with fail
    go_ret
    exact ⟨ret_bool (by by_cases h : n = 2 <;> simp [h] <;> omega), rfl⟩
  by_cases h9 : op = 9
  · subst h9
    obtain rfl : R = decide (n = 0) := by rw [← HR.out]; simp
    go_wp2_with fail
    go_ret
    exact ⟨ret_bool (by by_cases h : n = 0 <;> simp [h] <;> omega), rfl⟩
  have e7 : (op == 7) = false := by simp [h7]
  have e8 : (op == 8) = false := by simp [h8]
  have e9 : (op == 9) = false := by simp [h9]
  have hR2 : R = (decide (1 ≤ op ∧ op ≤ 6) && decide (n = 1)) := by rw [← HR.out, if_neg h7, if_neg h8, if_neg h9]
  have HR2 := hid hR2
  clear hR2 HR
  by_cases h1 : 1 ≤ op
  · by_cases h6 : op ≤ 6
    · by_cases hn : n = 1
      · subst hn
        obtain rfl : R = true := by rw [HR2.out]; simp [h1, h6]
        go_wp2_with fail
        go_ret
        exact ⟨ret_bool (by simp), rfl⟩
      · obtain rfl : R = false := by rw [HR2.out]; simp [hn]
        have en : ((n : Int) == 1) = false := by simp; omega
        go_wp2_with fail
        go_ret
        exact ⟨ret_bool (by simp [en]; try omega), rfl⟩
    · obtain rfl : R = false := by rw [HR2.out]; simp [h6]
      go_wp2_with fail
      go_ret
      exact ⟨ret_bool (by simp), rfl⟩
  · obtain rfl : R = false := by rw [HR2.out]; simp [h1]
    go_wp2_with fail
    go_ret
    exact ⟨ret_bool (by simp), rfl⟩
def leafOk (k : Int) (d : Nd) : Bool := takesB d.op d.args.length && d.args.all (isVal k) && isKind k
set_option maxHeartbeats 2000000 in
theorem isLeaf_any (k op col : Int) (av : Value) (args : List C3) (w : World) (hx : Rd w av args.length 3 (cells3 args)) : Calls Tryz.prog 50 #[.int .i64 k, .agg #[.int .i64 op, .int .i64 col, av]] w fun e w' => e = .returned (.bool (leafOk k ⟨op, col, args⟩)) ∧ Below w.heap.size w w' := by
  have HX := hid hx
  have HIV := hid (fun (c : C3) (w2 : World) => isValue_any c k w2)
  have HTK := hid (fun (w2 : World) => takes_any op args.length w2)
  have HIK := hid (fun (w2 : World) => IsKind_any k w2)
  obtain ⟨A, ca, rfl, hlc, hcm, _⟩ := hx.form
  clear hx
  obtain ⟨R, hR⟩ : ∃ R, leafOk k ⟨op, col, args⟩ = R := ⟨_, rfl⟩
  rw [hR]
  unfold leafOk at hR
  simp only at hR
  have HR := hid hR
  clear hR
  obtain ⟨ro, hbo⟩ := fresh (w := w) (C := #[.int .i64 op, .int .i64 col, .slice A args.length ca]) (e := 25)
  have HRO := hid ro; have HBO := hid hbo
  clear ro hbo
  obtain ⟨q, hq⟩ : ∃ q, args.length = q := ⟨_, rfl⟩
  have HQ := hid hq
  rw [hq] at HX hlc HTK HR HRO HBO ⊢
  clear hq
  unfold maxLen at hcm
  obtain ⟨tk, htk⟩ : ∃ tk, takesB op q = tk := ⟨_, rfl⟩
  rw [htk] at HTK HR
  go_enter Tryz.func50, Tryz.ntmps50
  go_upto_region 1 with fail
  generalize w.alloc (.cells #[.int .i64 op, .int .i64 col, .slice A q ca] 25) = w0 at *
  obtain ⟨k0, k1, k2⟩ := cell3 HRO.out
  cases tk
  · obtain rfl : R = false := by rw [← HR.out]; simp
    go_wp2_with (go_at_call 85; refine (HTK.out _).mono ?_; rintro e w2 ⟨rfl, rfl⟩)
    go_ret
    exact ⟨rfl, HBO.out⟩
  go_wp2_with (go_at_call 85; refine (HTK.out _).mono ?_; rintro e w2 ⟨rfl, rfl⟩)
  clear k0 k1 k2
  go_loopw [17] (fun i wr => ∃ t : Nat, t ≤ q ∧ i = .int .i64 t ∧ Hid (∀ u, u < t → isVal k (args.getD u C3.df) = true) ∧ Hid (Below w.heap.size w wr)) (fun i _ => q - (intOf i).toNat)
  case atStart => exact ⟨0, by omega, rfl, hid (fun u h => absurd h (Nat.not_lt_zero u)), HBO⟩
  case round =>
    obtain ⟨t, ht, rfl, HALL, HBW⟩ := hrel
    by_cases hlt : t < q
    · obtain ⟨b, o, rfl, hs⟩ := (HX.out.mono HBW.out).at (by omega)
      obtain ⟨c0, c1, c2⟩ := hs.c3 t (by rw [HQ.out]; exact hlt)
      have HB : Hid (isVal k (args.getD t C3.df) = false → R = false) := hid (fun h => by
        rw [← HR.out, all_not C3.df t (by rw [HQ.out]; exact hlt) h]; simp)
      have HS : Hid (isVal k (args.getD t C3.df) = true → ∀ u, u < t + 1 → isVal k (args.getD u C3.df) = true) := hid (fun h u hu => by
        by_cases hut : u = t
        · subst hut; exact h
        · exact HALL.out u (by omega))
      have HK := hid (fun (w2 : World) => HIV.out (args.getD t C3.df) w2)
      clear hs HIV
      generalize args.getD t C3.df = x at *
      obtain ⟨xn, xi, xs⟩ := x
      simp only [C3.v] at c0 c1 c2 HK
      generalize isVal k ⟨xn, xi, xs⟩ = kx at *
      have hwr := HBW.out.size
      cases kx
      · obtain rfl : R = false := HB.out rfl
        go_wp2_with (go_at_call 86; refine (HK.out _).mono ?_; rintro e w2 ⟨rfl, hb2⟩)
        go_ret
        exact ⟨rfl, Below.then' (HBW.out.alloc HBW.out.size _) hb2 (by simp; omega)⟩
      · have HS2 := hid (HS.out rfl)
        go_wp2_with (go_at_call 86; refine (HK.out _).mono ?_; rintro e w2 ⟨rfl, hb2⟩)
        go_roundw
        case rel => exact ⟨t + 1, by omega, by go_num, HS2, hid (Below.then' (HBW.out.alloc HBW.out.size _) hb2 (by simp; omega))⟩
        case measure => simp [intOf]; omega
    · obtain rfl : t = q := by omega
      have hRK : R = isKind k := by
        rw [← HR.out, all_of (L := args) (p := isVal k) C3.df (fun j hj => HALL.out j (by rw [← HQ.out]; exact hj))]
        simp
      clear HR
      subst hRK
      go_wp2_with (go_at_call 27; refine (HIK.out _).mono ?_; rintro e w2 ⟨rfl, rfl⟩)
      go_ret
      exact ⟨rfl, HBW.out⟩
def leafR (k : Int) (d : Nd) : Bool := takesB d.op d.args.length && d.args.all (isVal k)
set_option maxHeartbeats 4000000 in
theorem refLeafOK_any (k op col : Int) (av : Value) (args : List C3) (w : World) (hx : Rd w av args.length 3 (cells3 args)) : Calls Tryz.prog 32 #[.agg #[.int .i64 op, .int .i64 col, av], .int .i64 k] w fun e w' => e = .returned (.bool (leafR k ⟨op, col, args⟩)) ∧ Below w.heap.size w w' := by
  have HX := hid hx
  have HIV := hid (fun (c : C3) (w2 : World) => refIsValue_any c k w2)
  obtain ⟨A, ca, rfl, hlc, hcm, _⟩ := hx.form
  clear hx
  obtain ⟨R, hR⟩ : ∃ R, leafR k ⟨op, col, args⟩ = R := ⟨_, rfl⟩
  rw [hR]
  unfold leafR at hR
  simp only at hR
  have HR := hid hR
  clear hR
  obtain ⟨ro, hbo⟩ := fresh (w := w) (C := #[.int .i64 op, .int .i64 col, .slice A args.length ca]) (e := 25)
  have HRO := hid ro; have HBO := hid hbo
  clear ro hbo
  obtain ⟨q, hq⟩ : ∃ q, args.length = q := ⟨_, rfl⟩
  have HQ := hid hq
  rw [hq] at HX hlc HR HRO HBO ⊢
  clear hq
  unfold maxLen at hcm
  obtain ⟨tk, htk⟩ : ∃ tk, takesB op q = tk := ⟨_, rfl⟩
  rw [htk] at HR
  unfold takesB at htk
  have HTK := hid htk
  clear htk
  go_enter Tryz.func32, Tryz.ntmps32
  go_upto_region 1 with fail
  generalize w.alloc (.cells #[.int .i64 op, .int .i64 col, .slice A q ca] 25) = w0 at *
  obtain ⟨k0, k1, k2⟩ := cell3 HRO.out
  have hcase : ∃ want : Nat, (op = 7 ∧ want = q) ∨ (op = 8 ∧ want = 2) ∨ (op = 9 ∧ want = 0) ∨ (¬ op = 7 ∧ ¬ op = 8 ∧ ¬ op = 9 ∧ want = 1) := by
    by_cases h7 : op = 7
    · exact ⟨q, .inl ⟨h7, rfl⟩⟩
    · by_cases h8 : op = 8
      · exact ⟨2, .inr (.inl ⟨h8, rfl⟩)⟩
      · by_cases h9 : op = 9
        · exact ⟨0, .inr (.inr (.inl ⟨h9, rfl⟩))⟩
        · exact ⟨1, .inr (.inr (.inr ⟨h7, h8, h9, rfl⟩))⟩
  obtain ⟨want, hw⟩ := hcase
  have htk2 : tk = (decide (1 ≤ op ∧ op ≤ 9) && decide (q = want) && decide (want ≤ 1024)) := by
    rw [← HTK.out]
    rcases hw with ⟨rfl, rfl⟩ | ⟨rfl, rfl⟩ | ⟨rfl, rfl⟩ | ⟨h7, h8, h9, rfl⟩
    · simp
    · simp
    · simp
    · rw [if_neg h7, if_neg h8, if_neg h9]
      by_cases h : 1 ≤ op ∧ op ≤ 6
      · simp [h]; omega
      · have : ¬ (1 ≤ op ∧ op ≤ 9) := by omega
        simp [h, this]
  have HTK2 := hid htk2
  have HW := hid hw
  clear htk2 HTK
  go_upto_block 0 with fail
  go_cut [5] from 10 to 17 (fun s5 wc => s5 = .int .i64 want ∧ wc = w0)
  case first =>
    rcases hw with ⟨h, rfl⟩ | ⟨h, rfl⟩ | ⟨h, rfl⟩ | ⟨h7, h8, h9, rfl⟩
    · subst h
      go_wp2_with fail
      go_meet
      exact ⟨rfl, rfl⟩
    · subst h
      go_wp2_with fail
      go_meet
      exact ⟨rfl, rfl⟩
    · subst h
      go_wp2_with fail
      go_meet
      exact ⟨rfl, rfl⟩
    · have e7 : (op == 7) = false := by simp [h7]
      have e8 : (op == 8) = false := by simp [h8]
      have e9 : (op == 9) = false := by simp [h9]
      go_wp2_with fail
      go_meet
      exact ⟨rfl, rfl⟩
  case rest =>
    obtain ⟨rfl, rfl⟩ := hcut
    clear hw HW
    by_cases h1 : 1 ≤ op
    rotate_left
    · obtain rfl : R = false := by rw [← HR.out, HTK2.out]; simp [h1]
      go_wp2_with fail
      go_ret
      exact ⟨rfl, HBO.out⟩
    by_cases h9 : op ≤ 9
    rotate_left
    · obtain rfl : R = false := by rw [← HR.out, HTK2.out]; simp [h9]
      go_wp2_with fail
      go_ret
      exact ⟨rfl, HBO.out⟩
    by_cases hqw : q = want
    rotate_left
    · obtain rfl : R = false := by rw [← HR.out, HTK2.out]; simp [hqw]
      have eq1 : ((q : Int) != (want : Int)) = true := by simp; omega
      go_wp2_with fail
      go_ret
      exact ⟨rfl, HBO.out⟩
    subst hqw
    have eq1 : ((q : Int) != (q : Int)) = false := by simp
    by_cases hq : q ≤ 1024
    rotate_left
    · obtain rfl : R = false := by rw [← HR.out, HTK2.out]; simp [hq]
      go_wp2_with fail
      go_ret
      exact ⟨rfl, HBO.out⟩
    have hR2 : R = args.all (isVal k) := by rw [← HR.out, HTK2.out]; simp [h1, h9, hq]
    have HR2 := hid hR2
    clear hR2 HR HTK2
    go_wp2_with fail
    clear k0 k1 k2
    go_loopw [41] (fun i wr => ∃ t : Nat, t ≤ q ∧ i = .int .i64 t ∧ Hid (∀ u, u < t → isVal k (args.getD u C3.df) = true) ∧ Hid (Below w.heap.size w wr)) (fun i _ => q - (intOf i).toNat)
    case atStart => exact ⟨0, by omega, rfl, hid (fun u h => absurd h (Nat.not_lt_zero u)), HBO⟩
    case round =>
      obtain ⟨t, ht, rfl, HALL, HBW⟩ := hrel
      by_cases hlt : t < q
      · obtain ⟨b, o, rfl, hs⟩ := (HX.out.mono HBW.out).at (by omega)
        obtain ⟨c0, c1, c2⟩ := hs.c3 t (by rw [HQ.out]; exact hlt)
        have HB : Hid (isVal k (args.getD t C3.df) = false → R = false) := hid (fun h => by
          rw [HR2.out, all_not C3.df t (by rw [HQ.out]; exact hlt) h])
        have HS : Hid (isVal k (args.getD t C3.df) = true → ∀ u, u < t + 1 → isVal k (args.getD u C3.df) = true) := hid (fun h u hu => by
          by_cases hut : u = t
          · subst hut; exact h
          · exact HALL.out u (by omega))
        have HK := hid (fun (w2 : World) => HIV.out (args.getD t C3.df) w2)
        clear hs HIV
        generalize args.getD t C3.df = x at *
        obtain ⟨xn, xi, xs⟩ := x
        simp only [C3.v] at c0 c1 c2 HK
        generalize isVal k ⟨xn, xi, xs⟩ = kx at *
        have hwr := HBW.out.size
        cases kx
        · obtain rfl : R = false := HB.out rfl
          go_wp2_with (go_at_call 62; refine (HK.out _).mono ?_; rintro e w2 ⟨rfl, hb2⟩)
          go_ret
          exact ⟨rfl, Below.then' (HBW.out.alloc HBW.out.size _) hb2 (by simp; omega)⟩
        · have HS2 := hid (HS.out rfl)
          go_wp2_with (go_at_call 62; refine (HK.out _).mono ?_; rintro e w2 ⟨rfl, hb2⟩)
          go_roundw
          case rel => exact ⟨t + 1, by omega, by go_num, HS2, hid (Below.then' (HBW.out.alloc HBW.out.size _) hb2 (by simp; omega))⟩
          case measure => simp [intOf]; omega
      · obtain rfl : t = q := by omega
        obtain rfl : R = true := by
          rw [HR2.out, all_of (L := args) (p := isVal k) C3.df (fun j hj => HALL.out j (by rw [← HQ.out]; exact hj))]
        go_wp2_with fail
        go_ret
        exact ⟨rfl, HBW.out⟩
end Go.Proofs.YthonbfojpbfmgaaGreatDoor
