/- Package chunk: the kinds' own methods over cells. -/
import Derived.Test.YtdlkdiaobbakiaaGreatDoorLan
set_option linter.unusedVariables false
set_option linter.unusedSimpArgs false
set_option linter.unnecessarySimpa false
set_option maxRecDepth 100000
namespace Go.Proofs.YtdlkdiaobbakiaaGreatDoor
open Go.RowKit

def cellI (x : Int) : List Value := [.bool false, .int .i64 x, .string ByteArray.empty]
def cellS (x : ByteArray) : List Value := [.bool false, .int .i64 0, .string x]
def cellN : List Value := [.bool true, .int .i64 0, .string ByteArray.empty]
def aggv (cs : List Value) : Value := .agg cs.toArray

theorem IntsNumber_any (w : World) : Calls Tryz.prog 223 #[.agg #[]] w fun e w' => e = .returned (.int .i64 1) ∧ Below w.heap.size w w' := by
  go_enter Tryz.func223, Tryz.ntmps223
  go_wp2
  go_ret
  exact ⟨rfl, (brefl w).alloc (Nat.le_refl _) _⟩
theorem StrsNumber_any (w : World) : Calls Tryz.prog 217 #[.agg #[]] w fun e w' => e = .returned (.int .i64 2) ∧ Below w.heap.size w w' := by
  go_enter Tryz.func217, Tryz.ntmps217
  go_wp2
  go_ret
  exact ⟨rfl, (brefl w).alloc (Nat.le_refl _) _⟩
theorem IntsCell_any (x : Int) (w : World) : Calls Tryz.prog 222 #[.agg #[], .int .i64 x] w fun e w' => e = .returned (aggv (cellI x)) ∧ Below w.heap.size w w' := by
  go_enter Tryz.func222, Tryz.ntmps222
  go_wp2
  refine bodyPost_ret (v := aggv (cellI x)) ?_ rfl ⟨rfl, ?_⟩
  · simp [results, Tryz.results222, go_sem]
    rfl
  · exact ((brefl w).alloc (Nat.le_refl _) _).alloc (by simp) _
theorem IntsValue_any (x : Int) (w : World) : Calls Tryz.prog 224 #[.agg #[], aggv (cellI x)] w fun e w' => e = .returned (.int .i64 x) ∧ Below w.heap.size w w' := by
  unfold aggv cellI
  go_enter Tryz.func224, Tryz.ntmps224
  go_wp2
  go_ret
  refine ⟨rfl, ((brefl w).alloc (Nat.le_refl _) _).alloc (by simp) _⟩
theorem StrsCell_any (x : ByteArray) (w : World) : Calls Tryz.prog 216 #[.agg #[], .string x] w fun e w' => e = .returned (aggv (cellS x)) ∧ Below w.heap.size w w' := by
  go_enter Tryz.func216, Tryz.ntmps216
  go_wp2
  refine bodyPost_ret (v := aggv (cellS x)) ?_ rfl ⟨rfl, ?_⟩
  · simp [results, Tryz.results216, go_sem]
    rfl
  · exact ((brefl w).alloc (Nat.le_refl _) _).alloc (by simp) _
theorem CellRaw_I (x : Int) (w : World) : Calls Tryz.prog 222 #[.agg #[], .int .i64 x] w fun e w' => e = .returned (.agg #[.bool false, .int .i64 x, .string ByteArray.empty]) ∧ Below w.heap.size w w' := IntsCell_any x w
theorem CellRaw_S (x : ByteArray) (w : World) : Calls Tryz.prog 216 #[.agg #[], .string x] w fun e w' => e = .returned (.agg #[.bool false, .int .i64 0, .string x]) ∧ Below w.heap.size w w' := StrsCell_any x w
theorem m_Cell_I : ∀ w : World, (method 329 46 (.agg #[]) "Cell").run Tryz.prog w = .ok (222, .agg #[]) w := fun _ => by kernel_rfl
theorem m_Cell_S : ∀ w : World, (method 329 44 (.agg #[]) "Cell").run Tryz.prog w = .ok (216, .agg #[]) w := fun _ => by kernel_rfl
theorem m_Value_I : ∀ w : World, (method 329 46 (.agg #[]) "Value").run Tryz.prog w = .ok (224, .agg #[]) w := fun _ => by kernel_rfl
theorem m_Number_I : ∀ w : World, (method 329 46 (.agg #[]) "Number").run Tryz.prog w = .ok (223, .agg #[]) w := fun _ => by kernel_rfl
theorem m_Number_S : ∀ w : World, (method 329 44 (.agg #[]) "Number").run Tryz.prog w = .ok (217, .agg #[]) w := fun _ => by kernel_rfl

theorem cell_set3 (w : World) (p g o : Nat) (a b c : Value) (h : g ≠ p) : (((w.setCell ⟨p, 0, none⟩ a).setCell ⟨p, 1, none⟩ b).setCell ⟨p, 2, none⟩ c).cell? ⟨g, o, none⟩ = w.cell? ⟨g, o, none⟩ :=
  World.cell?_of_block (w := w) (by rw [heap_setCell_other _ _ _ _ (by simpa using h), heap_setCell_other _ _ _ _ (by simpa using h), heap_setCell_other _ _ _ _ (by simpa using h)])
def setc3 (w : World) (p : Nat) (cs : List Value) : World := ((w.setCell ⟨p, 0, none⟩ (cs.getD 0 undef)).setCell ⟨p, 1, none⟩ (cs.getD 1 undef)).setCell ⟨p, 2, none⟩ (cs.getD 2 undef)
theorem row_setc3 {w : World} {p : Nat} {e : TypeId} {a b c : Value} (h : Row w p e [a, b, c]) (x y z : Value) : Row (setc3 w p [x, y, z]) p e [x, y, z] := ((h.set 0 x).set 1 y).set 2 z
theorem below_setc3 {B : Nat} {w0 w : World} (h : Below B w0 w) (p : Nat) (hp : B ≤ p) (cs : List Value) : Below B w0 (setc3 w p cs) := below_set (below_set (below_set h _ _ _ hp) _ _ _ hp) _ _ _ hp
/-- 'make([]T, n)' for an element of three cells -/
theorem upon_make3 {P : Program} {w : World} {o : Oper} {a : Act} {K : Act → World → Prop} {Q : Exit → Act → World → Prop} {t : TypeId} {kl kc : IntKind} {L C : Int}
    (e : TypeId) (zs : List Value) (bytes : Nat) (h1 : P.underlying t = some (.slice e)) (h2 : (P.info? e).map (fun i => (i.zero, i.size, i.bytes)) = some (some (.agg zs.toArray), 3, bytes)) (hz : zs.length = 3)
    (n : Nat) (hL : L = (n : Int)) (hC : C = (n : Int)) (b2 : bytes * n ≤ 281474976710656) (b3 : n ≤ maxLen)
    (hK : ∀ w' cs, cs.length = n * 3 → Row w' w.heap.size e cs → Below w.heap.size w w' → w'.heap.size = w.heap.size + 1 → K (a.put o.dst (.slice (some ⟨w.heap.size, 0, none⟩) n n)) w') :
    o.upon P a K Q ((Sem.run P (Instr.makeSlice t (.int kl L) (.int kc C)) w).andThen fun b w' => Result.ok (Next.value b) w') := by
  obtain ⟨i, hi, hz0, hz1, hz2⟩ := info_parts h2
  subst hL
  subst hC
  have hb : (i.bytes : Int) * (n : Int) ≤ 281474976710656 := by
    have h : ((i.bytes * n : Nat) : Int) ≤ 281474976710656 := by rw [hz2]; omega
    rwa [Int.natCast_mul] at h
  have h63 : (n : Int) ≤ 9223372036854775807 := by unfold maxLen at b3; omega
  have hr := run_make (P := P) w t e i _ h1 hi hz0 kl kc n n (by omega) (Int.le_refl _) hb h63
  simp only [Int.toNat_natCast, hz1] at hr
  refine upon_ok hr (hK _ (madeCells (Value.agg zs.toArray).cells (n * 3)).toList (by rw [Array.length_toList, size_madeCells]) ?_ ((Below.refl _ _).alloc (Nat.le_refl _) _) (by simp))
  unfold Row
  rw [heap_alloc_new]
/-- the cells of so many entries of three each -/
def cellsUp (A : Nat → Bool) (B : Nat → Int) (C : Nat → ByteArray) : Nat → List Value
  | 0 => []
  | n + 1 => cellsUp A B C n ++ [.bool (A n), .int .i64 (B n), .string (C n)]
theorem cellsUp_length (A : Nat → Bool) (B : Nat → Int) (C : Nat → ByteArray) (n : Nat) : (cellsUp A B C n).length = n * 3 := by
  induction n with
  | zero => rfl
  | succ n ih => simp [cellsUp, ih]; omega
theorem row_three {w : World} {g : Nat} {e : TypeId} {cs : List Value} (h : Row w g e cs) (o : Nat) (ho : o + 2 < cs.length) :
    ∃ x y z, w.cell? ⟨g, o, none⟩ = some x ∧ w.cell? ⟨g, o + 1, none⟩ = some y ∧ w.cell? ⟨g, o + 2, none⟩ = some z :=
  ⟨_, _, _, by rw [h.cell]; exact List.getElem?_eq_getElem (by omega), by rw [h.cell]; exact List.getElem?_eq_getElem (by omega), by rw [h.cell]; exact List.getElem?_eq_getElem ho⟩
theorem set_three (pre rest : List Value) (o : Nat) (ho : pre.length = o) (hr : 3 ≤ rest.length) (a b c : Value) :
    (((pre ++ rest).set o a).set (o + 1) b).set (o + 2) c = (pre ++ [a, b, c]) ++ rest.drop 3 := by
  subst ho
  obtain ⟨x, y, z, r, rfl⟩ : ∃ x y z r, rest = x :: y :: z :: r := by
    match rest, hr with
    | x :: y :: z :: r, _ => exact ⟨x, y, z, r, rfl⟩
  simp [List.set_append_right, List.set_append]
theorem Tryz.infoCell : (Tryz.prog.info? 38).map (fun i => (i.zero, i.size, i.bytes)) = some (some (.agg [.bool false, .int .i64 0, .string ByteArray.empty].toArray), 3, 32) := by kernel_rfl
def setL (w : World) (a : Nat) : Nat → List Value → World
  | _, [] => w
  | o, v :: r => setL (w.setCell ⟨a, o, none⟩ v) a (o + 1) r
theorem row_setL {a : Nat} {e : TypeId} (vs : List Value) : ∀ (w : World) (pre cs : List Value), Row w a e (pre ++ cs) → vs.length = cs.length → Row (setL w a pre.length vs) a e (pre ++ vs) := by
  induction vs with
  | nil => intro w pre cs h hl; have : cs = [] := List.eq_nil_of_length_eq_zero hl.symm; subst this; exact h
  | cons v r ih =>
    intro w pre cs h hl
    match cs, hl with
    | c :: cs', hl =>
      have h1 := h.set pre.length v
      rw [List.set_append_right _ _ (Nat.le_refl _), Nat.sub_self, List.set_cons_zero] at h1
      have h2 := ih (w.setCell ⟨a, pre.length, none⟩ v) (pre ++ [v]) cs' (by simpa using h1) (by simpa using hl)
      rw [List.length_append] at h2
      simpa [setL] using h2
theorem row_setL0 {w : World} {a : Nat} {e : TypeId} {cs : List Value} (h : Row w a e cs) (vs : List Value) (hl : vs.length = cs.length) : Row (setL w a 0 vs) a e vs := row_setL vs w [] cs h hl
theorem below_setL {B : Nat} {w0 : World} (a : Nat) (ha : B ≤ a) (vs : List Value) : ∀ (w : World) (o : Nat), Below B w0 w → Below B w0 (setL w a o vs) := by
  induction vs with
  | nil => intro w o h; exact h
  | cons v r ih => intro w o h; exact ih _ _ (below_set h _ _ _ ha)
theorem setL_other (a : Nat) (vs : List Value) : ∀ (w : World) (o k : Nat), k ≠ a → (setL w a o vs).heap[k]? = w.heap[k]? := by
  induction vs with
  | nil => intro w o k h; rfl
  | cons v r ih => intro w o k h; rw [setL, ih _ _ _ h, heap_setCell_other _ _ _ _ (by simpa using h)]
theorem chg_setL (a : Nat) (vs : List Value) (w : World) (o : Nat) : Chg a a w (setL w a o vs) := by
  have hsz : ∀ (vs : List Value) (w : World) (o : Nat), Below 0 w (setL w a o vs) := fun vs w o => below_setL (w0 := w) a (Nat.zero_le _) vs w o (Below.refl _ _)
  have h := hsz vs w o
  exact ⟨h.os, h.tape, h.output, h.size, fun k _ h1 _ => setL_other a vs w o k h1⟩
theorem popN_zero (k : Nat) : L.popN k 0 = 0 := by induction k with | zero => rfl | succ k ih => simp [L.popN, ih]
/-- the bits up to b, pushed to the top of the word -/
theorem popN_top (x b : Nat) (hb : b < 64) : L.popN 64 (x * 2 ^ (63 - b) % 18446744073709551616) = L.popN (b + 1) x := by
  have e64 : (18446744073709551616 : Nat) = 2 ^ (63 - b) * 2 ^ (b + 1) := by rw [← Nat.pow_add, show 63 - b + (b + 1) = 64 by omega]
  have h1 : x * 2 ^ (63 - b) % 18446744073709551616 = 2 ^ (63 - b) * (x % 2 ^ (b + 1)) := by
    rw [e64, Nat.mul_comm x, Nat.mul_mod_mul_left]
  rw [h1, show (64 : Nat) = (63 - b) + (b + 1) by omega, L.popN_add, Nat.mul_div_cancel_left _ (Nat.pow_pos (by omega)), L.popN_mod]
  rw [← L.popN_mod, Nat.mul_mod_right, popN_zero, Nat.zero_add]
/-- the bits set up to a row -/
theorem rank_upto (ws : List Nat) (r : Nat) (hr : r / 64 < ws.length) :
    popL (ws.take (r / 64)) + L.popN 64 (ws.getD (r / 64) 0 * 2 ^ (63 - r % 64) % 18446744073709551616) = rankN ws (r + 1) := by
  rw [popN_top _ _ (by omega), ← rankN_words ws _ (by omega), ← rankN_word ws (r / 64) (r % 64 + 1) (by omega)]
  congr 1
  omega
end Go.Proofs.YtdlkdiaobbakiaaGreatDoor
