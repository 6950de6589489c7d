/- The plain answer: values as pairs, their order, lists of them whatever the kind. -/
import Derived.Test.YtdlkdiaobbakiaaGreatDoorRefL
import Derived.Deep.RegionHeld3
import Derived.Deep.CutRange
set_option linter.unusedVariables false
set_option linter.unusedSimpArgs false
set_option linter.unnecessarySimpa false
set_option maxRecDepth 100000
namespace Go.Proofs.YtdlkdiaobbakiaaGreatDoor
open Go.RowKit

/-- the cells of values, each by its integer and its string -/
def cellsP (vs : List (Int × ByteArray)) : List Value := vs.flatMap fun v => [.bool false, .int .i64 v.1, .string v.2]
def dfP : Int × ByteArray := (0, default)
theorem cellsP_snoc (vs : List (Int × ByteArray)) (v : Int × ByteArray) : cellsP (vs ++ [v]) = cellsP vs ++ [.bool false, .int .i64 v.1, .string v.2] := by simp [cellsP]
theorem cellsP_cons (v : Int × ByteArray) (vs : List (Int × ByteArray)) : cellsP (v :: vs) = [.bool false, .int .i64 v.1, .string v.2] ++ cellsP vs := by simp [cellsP]
theorem cellsP_length (vs : List (Int × ByteArray)) : (cellsP vs).length = vs.length * 3 := by
  induction vs with
  | nil => rfl
  | cons v r ih => rw [cellsP_cons, List.length_append, ih, List.length_cons]; simp; omega
theorem cellsP_get (vs : List (Int × ByteArray)) : ∀ k, k < vs.length → (cellsP vs)[k * 3]? = some (.bool false) ∧ (cellsP vs)[k * 3 + 1]? = some (.int .i64 (vs.getD k dfP).1) ∧ (cellsP vs)[k * 3 + 2]? = some (.string (vs.getD k dfP).2) := by
  induction vs with
  | nil => intro k hk; simp at hk
  | cons v r ih =>
    intro k hk
    rw [cellsP_cons]
    cases k with
    | zero => simp
    | succ k =>
      obtain ⟨h1, h2, h3⟩ := ih k (by simpa using hk)
      rw [List.getElem?_append_right (by simp; omega), List.getElem?_append_right (by simp; omega), List.getElem?_append_right (by simp; omega)]
      simp only [List.length_cons, List.length_nil, List.getD_cons_succ]
      rw [show (k + 1) * 3 - (0 + 1 + 1 + 1) = k * 3 by omega, show (k + 1) * 3 + 1 - (0 + 1 + 1 + 1) = k * 3 + 1 by omega, show (k + 1) * 3 + 2 - (0 + 1 + 1 + 1) = k * 3 + 2 by omega]
      exact ⟨h1, h2, h3⟩
def pI (x : Int) : Int × ByteArray := (x, ByteArray.empty)
def pS (x : ByteArray) : Int × ByteArray := (0, x)
theorem cellsI_P (xs : List Int) : cellsI xs = cellsP (xs.map pI) := by
  induction xs with
  | nil => rfl
  | cons x r ih => rw [List.map_cons, cellsP_cons, ← ih]; rfl
theorem cellsS_P (xs : List ByteArray) : cellsS xs = cellsP (xs.map pS) := by
  induction xs with
  | nil => rfl
  | cons x r ih => rw [List.map_cons, cellsP_cons, ← ih]; rfl

def ordP (x y : Int × ByteArray) : Int := if x.1 < y.1 then -1 else if y.1 < x.1 then 1 else ordS x.2 y.2
set_option maxHeartbeats 1000000 in
theorem order_any (x y : Int × ByteArray) (w : World) : Calls Tryz.prog 77 #[.agg #[.bool false, .int .i64 x.1, .string x.2], .agg #[.bool false, .int .i64 y.1, .string y.2]] w fun e w' => e = .returned (.int .i64 (ordP x y)) ∧ Below w.heap.size w w' := by
  obtain ⟨a, s⟩ := x
  obtain ⟨b, t⟩ := y
  simp only
  have hord : ordP (a, s) (b, t) = if a < b then -1 else if b < a then 1 else ordS s t := rfl
  rw [hord]
  clear hord
  obtain ⟨lt, hlt⟩ : ∃ lt, Op.bytesLess s.toList t.toList = lt := ⟨_, rfl⟩
  obtain ⟨eq, heq⟩ : ∃ eq, (s.toList == t.toList) = eq := ⟨_, rfl⟩
  have hord : ordS s t = if lt = true then -1 else if (!(lt || eq)) = true then 1 else 0 := by unfold ordS ltS eqS; rw [hlt, heq]
  rw [hord]
  clear hord
  go_enter Tryz.func77, Tryz.ntmps77
  by_cases h1 : a < b
  · rw [if_pos h1]
    go_wp2
    go_ret
    exact ⟨rfl, (((brefl w).alloc (Nat.le_refl _) _).alloc (by simp) _)⟩
  · rw [if_neg h1]
    by_cases h2 : b < a
    · rw [if_pos h2]
      have h2' : a > b := h2
      go_wp2
      go_ret
      exact ⟨rfl, (((brefl w).alloc (Nat.le_refl _) _).alloc (by simp) _)⟩
    · rw [if_neg h2]
      have h2' : ¬ a > b := h2
      cases lt
      · cases eq
        · go_wp2
          go_ret
          exact ⟨rfl, (((brefl w).alloc (Nat.le_refl _) _).alloc (by simp) _)⟩
        · go_wp2
          go_ret
          exact ⟨rfl, (((brefl w).alloc (Nat.le_refl _) _).alloc (by simp) _)⟩
      · go_wp2
        go_ret
        exact ⟨rfl, (((brefl w).alloc (Nat.le_refl _) _).alloc (by simp) _)⟩

/-- the list of m values of a kind at place p -/
def listOk (kd : Nat) (m p : Nat) (xs : List Nat) : Bool := if kd = 1 then numsOk 8 m p xs.length else strsOk m p xs
def listNx (kd : Nat) (m p : Nat) (xs : List Nat) : Nat := if kd = 1 then (if numsOk 8 m p xs.length = true then p + 8 * m else 0) else strsNx m p xs
def listP (kd : Nat) (m p : Nat) (xs : List Nat) : List (Int × ByteArray) := if kd = 1 then ((numL 8 (tk (8 * m) (xs.drop p))).map sgn64).map pI else (strsV m p xs).map pS
theorem listAt_any (kd : Nat) (hkd : kd = 1 ∨ kd = 2) (v : Value) (xs : List Nat) (p m : Nat) (w : World) (hx : Rd w v xs.length 1 (u8s xs)) (hb : ∀ x ∈ xs, x < 256) (hl : xs.length ≤ 1048576) (hp : p ≤ 1099511627776) (hm : m ≤ 4294967296) :
    Calls Tryz.prog 50 #[v, .int .i64 p, .int .i64 kd, .int .i64 m] w fun e w' =>
      ∃ u, e = .returned (.tuple #[u, .int .i64 (listNx kd m p xs : Nat), .bool (listOk kd m p xs)]) ∧ w'.ownsRow w.heap.size 38 3 u (listP kd m p xs).length (cellsP (listP kd m p xs)) ∧ Below w.heap.size w w' := by
  rcases hkd with rfl | rfl
  · refine (listAtI_any v xs p m w hx hb hl hp hm).mono ?_
    rintro e w' ⟨u, h1, h2, h3⟩
    refine ⟨u, ?_, ?_, h3⟩
    · unfold listNx listOk; rw [if_pos rfl, if_pos rfl]; exact h1
    · unfold listP; rw [if_pos rfl, List.length_map, ← cellsI_P]; exact h2
  · refine (listAtS_any v xs p m w hx hb hl hp hm).mono ?_
    rintro e w' ⟨u, h1, h2, h3⟩
    refine ⟨u, ?_, ?_, h3⟩
    · unfold listNx listOk; rw [if_neg (by decide), if_neg (by decide)]; exact h1
    · unfold listP; rw [if_neg (by decide), List.length_map, ← cellsS_P]; exact h2
theorem rd_cells {w : World} {v : Value} {n : Nat} {vs : List (Int × ByteArray)} (h : Rd w v vs.length 3 (cellsP vs)) : ∃ A cap, v = .slice A vs.length cap ∧ (0 < vs.length → ∃ b o, A = some ⟨b, o, none⟩ ∧
    ∀ k, k < vs.length → w.cell? ⟨b, o + k * 3, none⟩ = some (.bool false) ∧ w.cell? ⟨b, o + k * 3 + 1, none⟩ = some (.int .i64 (vs.getD k dfP).1) ∧ w.cell? ⟨b, o + k * 3 + 2, none⟩ = some (.string (vs.getD k dfP).2)) := by
  obtain ⟨A, cap, rfl, _, _, hA⟩ := h.form
  refine ⟨A, cap, rfl, fun h0 => ?_⟩
  obtain ⟨b, o, rfl, hs⟩ := hA h0
  refine ⟨b, o, rfl, fun k hk => ?_⟩
  obtain ⟨g0, g1, g2⟩ := cellsP_get vs k hk
  exact ⟨hs _ _ g0, hs _ _ g1, hs _ _ g2⟩
end Go.Proofs.YtdlkdiaobbakiaaGreatDoor
