/- Package chunk's small questions: kinds, rows, codecs, ends of runs, order and neighbours. -/
import Derived.Test.YtdlkdiaobbakiaaGreatDoorWirec
set_option linter.unusedVariables false
set_option linter.unusedSimpArgs false
set_option linter.unnecessarySimpa false
set_option maxRecDepth 20000
namespace Go.Proofs.YtdlkdiaobbakiaaGreatDoor
open Go.RowKit

def isKind (k : Int) : Bool := decide (k = 1 ∨ k = 2)
def isRows (n : Int) : Bool := decide (0 ≤ n ∧ n ≤ 65536)
def isCodec (k c : Int) : Bool := if 1 ≤ c ∧ c ≤ 3 then isKind k else decide (4 ≤ c ∧ c ≤ 5 ∧ k = 1)

theorem IsKind_any (k : Int) (w : World) : Calls Tryz.prog 18 #[.int .i64 k] w fun e w' => e = .returned (.bool (isKind k)) ∧ w' = w := by
  go_enter Tryz.func18, Tryz.ntmps18
  go_wp2
  all_goals go_ret
  all_goals refine ⟨ret_bool ?_, rfl⟩
  all_goals by_cases h1 : k = 1 <;> by_cases h2 : k = 2 <;> simp_all [isKind]
theorem IsRows_any (k : Int) (w : World) : Calls Tryz.prog 19 #[.int .i64 k] w fun e w' => e = .returned (.bool (isRows k)) ∧ w' = w := by
  go_enter Tryz.func19, Tryz.ntmps19
  go_wp2
  all_goals go_ret
  all_goals refine ⟨ret_bool ?_, rfl⟩
  all_goals by_cases h1 : 0 ≤ k <;> by_cases h2 : k ≤ 65536 <;> simp [isRows] <;> omega
theorem IsCodec_any (k c : Int) (w : World) : Calls Tryz.prog 32 #[.int .i64 k, .int .i64 c] w fun e w' => e = .returned (.bool (isCodec k c)) ∧ w' = w := by
  go_enter Tryz.func32, Tryz.ntmps32
  by_cases h1 : c = 1
  · subst h1
    go_wp2_with (go_at_call 18; refine (IsKind_any _ _).mono ?_; rintro e w' ⟨rfl, rfl⟩)
    go_ret
    exact ⟨rfl, rfl⟩
  by_cases h2 : c = 2
  · subst h2
    go_wp2_with (go_at_call 18; refine (IsKind_any _ _).mono ?_; rintro e w' ⟨rfl, rfl⟩)
    go_ret
    exact ⟨rfl, rfl⟩
  by_cases h3 : c = 3
  · subst h3
    go_wp2_with (go_at_call 18; refine (IsKind_any _ _).mono ?_; rintro e w' ⟨rfl, rfl⟩)
    go_ret
    exact ⟨rfl, rfl⟩
  by_cases h4 : c = 4
  · subst h4
    go_wp2
    go_ret
    exact ⟨ret_bool (by by_cases h : k = 1 <;> simp [isCodec, h]), rfl⟩
  by_cases h5 : c = 5
  · subst h5
    go_wp2
    go_ret
    exact ⟨ret_bool (by by_cases h : k = 1 <;> simp [isCodec, h]), rfl⟩
  · go_wp2
    go_ret
    exact ⟨ret_bool (by unfold isCodec; rw [if_neg (by omega)]; symm; rw [decide_eq_false_iff_not]; omega), rfl⟩

/-- do the ends cut k values into runs? -/
def endsUp (last : Int) : List Int → Option Int
  | [] => some last
  | e :: r => if e ≤ last then none else endsUp e r
def runEnds (ends : List Int) (k : Int) : Bool := endsUp 0 ends == some k
theorem endsUp_snoc (es : List Int) : ∀ (l e : Int), endsUp l (es ++ [e]) = (endsUp l es).bind fun x => if e ≤ x then none else some e := by
  induction es with
  | nil => intro l e; simp [endsUp]
  | cons a r ih => intro l e; simp only [List.cons_append, endsUp]; split
                   · rfl
                   · exact ih a e
theorem endsUp_none (es fs : List Int) : ∀ l, endsUp l es = none → endsUp l (es ++ fs) = none := by
  induction es with
  | nil => intro l h; simp [endsUp] at h
  | cons a r ih => intro l h; simp only [List.cons_append, endsUp] at h ⊢; split
                   · rfl
                   · rename_i hc; rw [if_neg hc] at h; exact ih a h

set_option maxHeartbeats 1000000 in
theorem areRunEnds_any (v : Value) (es : List Int) (k : Int) (w : World) (hx : Rd w v es.length 1 (i64s es)) (hl : es.length ≤ maxLen) :
    Calls Tryz.prog 135 #[v, .int .i64 k] w fun e w' => e = .returned (.bool (runEnds es k)) ∧ w' = w := by
  unfold maxLen at hl
  obtain ⟨A, ca, rfl, hlc, hcm, hA⟩ := hx.form
  clear hx
  go_enter Tryz.func135, Tryz.ntmps135
  go_wp2
  go_loop [5, 10] (fun u i => ∃ (j : Nat) (l : Int), j ≤ es.length ∧ i = .int .i64 j ∧ u = .int .i64 l ∧ endsUp 0 (es.take j) = some l) (fun _ i => es.length - (intOf i).toNat)
  case atStart => exact ⟨0, 0, by omega, rfl, rfl, rfl⟩
  case round =>
    obtain ⟨j, l, hj, rfl, rfl, hu⟩ := hrel
    have HU := hid hu
    clear hu
    by_cases hlt : j < es.length
    · obtain ⟨b, o, rfl, hs⟩ := hA (by omega)
      have c1 := hs.int j hlt
      have hsn : endsUp 0 (es.take (j + 1)) = if es.getD j 0 ≤ l then none else some (es.getD j 0) := by
        rw [List.take_succ_eq_append_getElem hlt, endsUp_snoc, HU.out]
        simp [List.getD, List.getElem?_eq_getElem hlt]
      have HB : Hid (endsUp 0 (es.take (j + 1)) = none → runEnds es k = false) := by
        intro h
        have := endsUp_none (es.take (j + 1)) (es.drop (j + 1)) 0 h
        rw [List.take_append_drop] at this
        simp [runEnds, this]
      have HSN := hid hsn
      clear hsn hs hA
      generalize es.getD j 0 = p at *
      go_wp2
      · rename_i h
        go_ret
        exact ⟨ret_bool (HB.out (by rw [HSN.out, if_pos (by omega)])).symm, rfl⟩
      · rename_i h
        go_round
        case rel => exact ⟨j + 1, p, by omega, by go_num, rfl, by rw [HSN.out, if_neg (by omega)]⟩
        case measure => simp [intOf]; omega
    · go_wp2
      go_ret
      have hu := HU.out
      rw [show j = es.length from by omega, List.take_length] at hu
      refine ⟨ret_bool ?_, rfl⟩
      rw [runEnds, hu]
      by_cases h : l = k <;> simp [h]

/-- two neighbours of a list stand in the relation r nowhere -/
def noPair {α : Type} (r : α → α → Bool) : List α → Bool
  | a :: b :: t => !r a b && noPair r (b :: t)
  | _ => true
theorem noPair_iff {α : Type} (r : α → α → Bool) (d : α) : ∀ xs : List α, noPair r xs = true ↔ ∀ i, i + 1 < xs.length → r (xs.getD i d) (xs.getD (i + 1) d) = false := by
  intro xs
  induction xs with
  | nil => simp [noPair]
  | cons a t ih =>
    cases t with
    | nil => simp [noPair]
    | cons b t =>
      rw [noPair, Bool.and_eq_true, ih]
      constructor
      · rintro ⟨h1, h2⟩ i hi
        cases i with
        | zero => simpa using h1
        | succ i => simpa using h2 i (by simpa using hi)
      · intro h
        refine ⟨by simpa using h 0 (by simp), fun i hi => ?_⟩
        simpa using h (i + 1) (by simpa using hi)
def geI (a b : Int) : Bool := decide (b ≤ a)
def eqI (a b : Int) : Bool := a == b
def ltS (a b : ByteArray) : Bool := Op.bytesLess a.toList b.toList
def geS (a b : ByteArray) : Bool := !ltS a b
def eqS (a b : ByteArray) : Bool := a.toList == b.toList
def strs (xs : List ByteArray) : List Value := xs.map Value.string
theorem strs_length (xs : List ByteArray) : (strs xs).length = xs.length := by simp [strs]
theorem strs_get (xs : List ByteArray) (i : Nat) (h : i < xs.length) : (strs xs)[i]? = some (.string (xs.getD i default)) := by
  simp [strs, List.getElem?_eq_getElem h, List.getD]
theorem strs_append (xs ys : List ByteArray) : strs (xs ++ ys) = strs xs ++ strs ys := by simp [strs]
theorem Seg.str {w : World} {b o : Nat} {xs : List ByteArray} (h : Seg w b o (strs xs)) (i : Nat) (hi : i < xs.length) : w.cell? ⟨b, o + i, none⟩ = some (.string (xs.getD i default)) :=
  h i _ (strs_get xs i hi)
end Go.Proofs.YtdlkdiaobbakiaaGreatDoor
