/- Memory words for the walks of this seat: rows of cells that the call owns, slices that it reads, and how they stand when the memory grows. -/
import Derived.WalkKit
import Derived.BigQuiet
import Derived.Deep.QuietTactic
import Derived.Laws.CopyOwn
import Derived.WalkSmall
import Derived.ProofKit
import Derived.SizedLaws
import Derived.Test.YthonbfojpbfmgaaGreatDoorProg
import Derived.Test.YthonbfojpbfmgaaGreatDoorLawfoldsplitB0
set_option linter.unusedVariables false
set_option linter.unusedSimpArgs false
set_option linter.unnecessarySimpa false
namespace Go.Proofs.YthonbfojpbfmgaaGreatDoor
open Go.RowKit

/-- The cells from offset o of block b hold the values cs. -/
def Seg (w : World) (b o : Nat) (cs : List Value) : Prop := ∀ i v, cs[i]? = some v → w.cell? ⟨b, o + i, none⟩ = some v
/-- v is a slice of n elements of sz cells each, which hold cs. -/
def Rd (w : World) (v : Value) (n sz : Nat) (cs : List Value) : Prop :=
  cs.length = n * sz ∧ (((∃ A, v = .slice A 0 0) ∧ n = 0) ∨ ∃ b o cap, v = .slice (some ⟨b, o, none⟩) n cap ∧ n ≤ cap ∧ cap ≤ maxLen ∧ Seg w b o cs)
/-- Block g is a row of cells of the call's own that holds cs, to its end. -/
def Row (w : World) (g : Nat) (e : TypeId) (cs : List Value) : Prop := w.heap[g]? = some (.cells cs.toArray e (0, 0))
def u64 (n : Nat) : Value := .int .u64 (n : Int)
def i64 (n : Int) : Value := .int .i64 n
def u64s (xs : List Nat) : List Value := xs.map u64

theorem u64s_length (xs : List Nat) : (u64s xs).length = xs.length := by simp [u64s]
theorem u64s_get (xs : List Nat) (i : Nat) (h : i < xs.length) : (u64s xs)[i]? = some (.int .u64 ((xs.getD i 0 : Nat) : Int)) := by
  simp [u64s, u64, List.getElem?_eq_getElem h, List.getD]
theorem addr_add (b o j : Nat) : (⟨b, o, none⟩ : Addr).add j = ⟨b, o + j, none⟩ := by unfold Addr.add; split <;> simp_all

theorem Seg.mono {w w' : World} {b o : Nat} {cs : List Value} (h : Seg w b o cs) (hb : Below w.heap.size w w') : Seg w' b o cs := by
  intro i v hv
  have h1 := h i v hv
  rw [← h1]
  exact hb.cell (p := ⟨b, o + i, none⟩) (World.block_lt_of_cell? w _ h1)
theorem Rd.mono {w w' : World} {v : Value} {n sz : Nat} {cs : List Value} (h : Rd w v n sz cs) (hb : Below w.heap.size w w') : Rd w' v n sz cs := by
  refine ⟨h.1, ?_⟩
  rcases h.2 with h | ⟨b, o, cap, rfl, h1, h2, h3⟩
  · exact .inl h
  · exact .inr ⟨b, o, cap, rfl, h1, h2, h3.mono hb⟩
theorem bthen {a b c : World} (h : Below a.heap.size a b) (k : Below b.heap.size b c) : Below a.heap.size a c := h.trans (k.mono h.size)
theorem bdrew {a b : World} (h : Below a.heap.size a b) (n : Nat) : Below a.heap.size a (b.drewN n) := Go.below_drewN h n
theorem brefl (a : World) : Below a.heap.size a a := Below.refl _ _
theorem Below.then {a b c : World} (h : Below a.heap.size a b) (k : Below b.heap.size b c) : Below a.heap.size a c := h.trans (k.mono h.size)
theorem Below.then' {B : Nat} {a b c : World} (h : Below B a b) (k : Below b.heap.size b c) (hB : B ≤ b.heap.size) : Below B a c := h.trans (k.mono hB)

theorem Row.lt {w : World} {g : Nat} {e : TypeId} {cs : List Value} (h : Row w g e cs) : g < w.heap.size := (Array.getElem?_eq_some_iff.1 h).1
theorem Row.cell {w : World} {g : Nat} {e : TypeId} {cs : List Value} (h : Row w g e cs) (i : Nat) : w.cell? ⟨g, i, none⟩ = cs[i]? := by
  simp [World.cell?, show w.heap[g]? = _ from h]
theorem Row.frozen {w : World} {g : Nat} {e : TypeId} {cs : List Value} (h : Row w g e cs) (i : Nat) : w.frozen? ⟨g, i, none⟩ = false := by
  simp [World.frozen?, show w.heap[g]? = _ from h]
theorem Row.seg {w : World} {g : Nat} {e : TypeId} {cs : List Value} (h : Row w g e cs) (o n : Nat) : Seg w g o ((cs.drop o).take n) := by
  intro i v hv
  rw [h.cell]
  rw [List.getElem?_take] at hv
  split at hv
  · simpa using hv
  · cases hv
theorem Row.mono {w w' : World} {g : Nat} {e : TypeId} {cs : List Value} (h : Row w g e cs) (hb : Below w.heap.size w w') : Row w' g e cs := by
  unfold Row; rw [hb.block g h.lt]; exact h
theorem Row.below {B : Nat} {w w' : World} {g : Nat} {e : TypeId} {cs : List Value} (h : Row w g e cs) (hb : Below B w w') (hg : g < B) : Row w' g e cs := by
  unfold Row; rw [hb.block g hg]; exact h
/-- a store into the row -/
theorem Row.set {w : World} {g : Nat} {e : TypeId} {cs : List Value} (h : Row w g e cs) (i : Nat) (v : Value) : Row (w.setCell ⟨g, i, none⟩ v) g e (cs.set i v) := by
  have h' : w.heap[g]? = some (.cells cs.toArray e (0, 0)) := h
  have := heap_setCell_same w g i cs.toArray e v h'
  unfold Row; rw [this]; simp
/-- a store into another row -/
theorem Row.other {w : World} {g : Nat} {e : TypeId} {cs : List Value} (h : Row w g e cs) {a : Addr} (v : Value) (hne : g ≠ a.block) : Row (w.setCell a v) g e cs := by
  unfold Row; rw [heap_setCell_other w a g v hne]; exact h
theorem Row.rd {w : World} {g : Nat} {e : TypeId} {cs : List Value} (h : Row w g e cs) (o n cap : Nat) (h1 : o + n ≤ cs.length) (h2 : n ≤ cap) (h3 : cap ≤ maxLen) :
    Rd w (.slice (some ⟨g, o, none⟩) n cap) n 1 ((cs.drop o).take n) :=
  ⟨by simp; omega, .inr ⟨g, o, cap, rfl, h2, h3, h.seg o n⟩⟩
theorem Row.rd' {w : World} {g : Nat} {e : TypeId} {cs : List Value} {n : Nat} (h : Row w g e cs) (hn : cs.length = n) (hm : n ≤ maxLen) : Rd w (.slice (some ⟨g, 0, none⟩) n n) n 1 cs := by
  subst hn
  have := h.rd 0 cs.length cs.length (by omega) (Nat.le_refl _) hm
  rwa [List.drop_zero, List.take_length] at this
theorem below_set {B : Nat} {a w : World} (h : Below B a w) (b o : Nat) (u : Value) (hb : B ≤ b) : Below B a (w.setCell ⟨b, o, none⟩ u) := h.setCell (p := ⟨b, o, none⟩) hb u
theorem Rd.drew {w : World} {v : Value} {n sz : Nat} {cs : List Value} (h : Rd w v n sz cs) : Rd w.drew v n sz cs := h

/-- What a slice of words looks like, and its cells. -/
theorem Rd.form {w : World} {v : Value} {n sz : Nat} {cs : List Value} (h : Rd w v n sz cs) :
    ∃ A cap, v = .slice A n cap ∧ n ≤ cap ∧ cap ≤ maxLen ∧ (0 < n → ∃ b o, A = some ⟨b, o, none⟩ ∧ Seg w b o cs) := by
  rcases h.2 with ⟨⟨A, rfl⟩, rfl⟩ | ⟨b, o, cap, rfl, h1, h2, hs⟩
  · exact ⟨A, 0, rfl, Nat.le_refl _, Nat.zero_le _, fun h => by omega⟩
  · exact ⟨_, _, rfl, h1, h2, fun _ => ⟨b, o, rfl, hs⟩⟩
theorem Seg.word {w : World} {b o : Nat} {xs : List Nat} (h : Seg w b o (u64s xs)) (i : Nat) (hi : i < xs.length) : w.cell? ⟨b, o + i, none⟩ = some (.int .u64 ((xs.getD i 0 : Nat) : Int)) :=
  h i _ (u64s_get xs i hi)
/-- a whole row of the call's own, as the kit's laws have it -/
theorem Row.owns {w : World} {g B : Nat} {e : TypeId} {cs : List Value} {n : Nat} (h : Row w g e cs) (hB : B ≤ g) (hn : cs.length = n) (hm : n ≤ maxLen) :
    w.ownsRow B e 1 (.slice (some ⟨g, 0, none⟩) n n) n cs :=
  ⟨by omega, .inr ⟨g, n, cs.toArray, rfl, hB, h, Nat.le_refl _, hm, by simp [hn], by rw [Nat.mul_one, ← hn, List.toList_toArray, List.take_length]⟩⟩
theorem owns_rd {w : World} {B : Nat} {e : TypeId} {v : Value} {n : Nat} {cs : List Value} (h : w.ownsRow B e 1 v n cs) : Rd w v n 1 cs := by
  refine ⟨by have := h.1; omega, ?_⟩
  rcases h.2 with ⟨rfl, rfl⟩ | ⟨g, cap, cur, rfl, hb, hg, hnc, hcm, hcs, htake⟩
  · exact .inl ⟨⟨_, rfl⟩, rfl⟩
  · refine .inr ⟨g, 0, cap, rfl, hnc, hcm, ?_⟩
    intro i v hv
    have := h.cells (g := g) rfl i v hv
    rwa [addr_add] at this
theorem owns_below {w w' : World} {B : Nat} {e : TypeId} {v : Value} {n : Nat} {cs : List Value} (h : w.ownsRow B e 1 v n cs) (hb : Below w.heap.size w w') : w'.ownsRow B e 1 v n cs := by
  refine ⟨h.1, ?_⟩
  rcases h.2 with hn | ⟨g, cap, cur, rfl, hb', hg, r⟩
  · exact .inl hn
  · exact .inr ⟨g, cap, cur, rfl, hb', by rw [hb.block g (Array.getElem?_eq_some_iff.1 hg).1]; exact hg, r⟩
/-- a part of a slice that is read -/
theorem Rd.part {w : World} {b o n cap : Nat} {cs : List Value} (h : Seg w b o cs) (l m : Nat) (hl : cs.length = n) (hlm : l + m ≤ n) (hc : l + m ≤ cap) (hm : cap ≤ maxLen) :
    Rd w (.slice (some ⟨b, o + l, none⟩) m (cap - l)) m 1 ((cs.drop l).take m) := by
  refine ⟨by simp; omega, .inr ⟨b, o + l, cap - l, rfl, by omega, by omega, ?_⟩⟩
  intro i v hv
  rw [List.getElem?_take] at hv
  split at hv
  · rw [List.getElem?_drop] at hv
    have := h (l + i) v hv
    rwa [← Nat.add_assoc] at this
  · cases hv
theorem hid {p : Prop} (h : p) : Hid p := h
theorem get_fill (A : List Value) (n : Nat) (z : Value) (i : Nat) (hi : i = A.length) (hn : 0 < n) : (A ++ List.replicate n z)[i]? = some z := by
  subst hi
  rw [List.getElem?_append_right (Nat.le_refl _), Nat.sub_self, List.getElem?_replicate, if_pos hn]
theorem set_fill (A : List Value) (n : Nat) (z v : Value) (i : Nat) (hi : i = A.length) (hn : 0 < n) : (A ++ List.replicate n z).set i v = A ++ [v] ++ List.replicate (n - 1) z := by
  subst hi
  rw [List.set_append_right _ _ (Nat.le_refl _)]
  obtain ⟨k, rfl⟩ : ∃ k, n = k + 1 := ⟨n - 1, by omega⟩
  simp [List.replicate_succ]
theorem u64s_append (xs ys : List Nat) : u64s (xs ++ ys) = u64s xs ++ u64s ys := by simp [u64s]
theorem not_u64 (x : Int) (n : Nat) (hx : x = (n : Int)) (hn : n < 18446744073709551616) :
    bits BinOp.xor IntKind.u64 IntKind.u64.max x = ((18446744073709551615 - n : Nat) : Int) := by
  subst hx
  have hmax : IntKind.u64.max = ((18446744073709551615 : Nat) : Int) := rfl
  rw [hmax, u64_xor_nat _ _ (by decide) hn]
  congr 1
  have e : (18446744073709551615 : Nat) = 2 ^ 64 - 1 := rfl
  apply Nat.eq_of_testBit_eq
  intro i
  have h2 : (18446744073709551615 - n) = 2 ^ 64 - 1 - n := rfl
  rw [Nat.testBit_xor, e, Nat.testBit_two_pow_sub_one]
  rw [show 2 ^ 64 - 1 - n = 2 ^ 64 - (n + 1) from by omega, Nat.testBit_two_pow_sub_succ (by omega)]
  by_cases h : i < 64
  · simp [h]
  · have : n.testBit i = false := Nat.testBit_lt_two_pow (Nat.lt_of_lt_of_le hn (by
      have : 2 ^ 64 ≤ 2 ^ i := Nat.pow_le_pow_right (by omega) (by omega)
      simpa using this))
    simp [h, this]
/-- Where the walk stands at an operation whose run it can't reckon. -/
theorem upon_ok {P : Program} {o : Oper} {a : Act} {K : Act → World → Prop} {Q : Exit → Act → World → Prop} {s : Sem Value} {w w1 : World} {v : Value}
    (h : Sem.run P s w = .ok v w1) (hk : K (a.put o.dst v) w1) : o.upon P a K Q ((Sem.run P s w).andThen fun b w' => Result.ok (Next.value b) w') := by
  rw [h]; exact hk

/-- 'make([]T, n)' for an element of one cell -/
theorem upon_make {P : Program} {w : World} {o : Oper} {a : Act} {K : Act → World → Prop} {Q : Exit → Act → World → Prop} {t : TypeId} {kl kc : IntKind} {L C : Int}
    (e : TypeId) (z : Value) (bytes : Nat) (h1 : P.underlying t = some (.slice e)) (h2 : (P.info? e).map (fun i => (i.zero, i.size, i.bytes)) = some (some z, 1, bytes)) (hz : z.cells = #[z])
    (n : Nat) (hL : L = (n : Int)) (hC : C = (n : Int)) (b2 : bytes * n ≤ 281474976710656) (b3 : n ≤ maxLen)
    (hK : ∀ w', Row w' w.heap.size e (List.replicate n z) → Below w.heap.size w w' → w'.heap.size = w.heap.size + 1 → K (a.put o.dst (.slice (some ⟨w.heap.size, 0, none⟩) n n)) w') :
    o.upon P a K Q ((Sem.run P (Instr.makeSlice t (.int kl L) (.int kc C)) w).andThen fun b w' => Result.ok (Next.value b) w') := by
  obtain ⟨i, hi, hz0, hz1, hz2⟩ := info_parts h2
  subst hL
  subst hC
  have hb : (i.bytes : Int) * (n : Int) ≤ 281474976710656 := by
    have h : ((i.bytes * n : Nat) : Int) ≤ 281474976710656 := by rw [hz2]; omega
    rwa [Int.natCast_mul] at h
  have h63 : (n : Int) ≤ 9223372036854775807 := by
    unfold maxLen at b3; omega
  have hr := run_make (P := P) w t e i z h1 hi hz0 kl kc n n (by omega) (Int.le_refl _) hb h63
  simp only [Int.toNat_natCast, hz1, hz] at hr
  refine upon_ok hr (hK _ ?_ ((Below.refl _ _).alloc (Nat.le_refl _) _) (by simp))
  unfold Row
  rw [heap_alloc_new]
  congr 2
  apply Array.ext'
  simp [toList_madeCells_one]

theorem cell_new (w : World) (u : Value) (t : TypeId) : ∀ j x, [u][j]? = some x → (w.alloc (.cells #[u] t)).cell? ((⟨w.heap.size, 0, none⟩ : Addr).add j) = some x := by
  intro j x hx
  cases j with
  | zero =>
    simp at hx; subst hx
    rw [addr_add, cell_of_row _ w.heap.size 0 #[u] t (0, 0) (heap_alloc_new w _)]
    rfl
  | succ j => simp at hx
theorem owns_form {w : World} {B : Nat} {e : TypeId} {v : Value} {n : Nat} {xs : List Value} (h : w.ownsRow B e 1 v n xs) : ∃ A cap, v = .slice A n cap ∧ n ≤ cap ∧ cap ≤ maxLen ∧ xs.length = n ∧
    (0 < n → ∃ g, A = some ⟨g, 0, none⟩ ∧ B ≤ g ∧ g < w.heap.size ∧ (∀ j, j < n → w.cell? ⟨g, j, none⟩ = xs[j]?) ∧ ∀ j, w.frozen? ⟨g, j, none⟩ = false) := by
  have hx : xs.length = n := by have := h.1; omega
  rcases h.2 with ⟨rfl, rfl⟩ | ⟨g, cap, cur, rfl, hb, hg, hnc, hcm, hcs, htake⟩
  · exact ⟨none, 0, rfl, Nat.le_refl _, Nat.zero_le _, hx, fun h => by omega⟩
  · exact ⟨_, cap, rfl, hnc, hcm, hx, fun _ => ⟨g, rfl, hb, (Array.getElem?_eq_some_iff.1 hg).1, fun j hj => h.cellAt j (by omega), fun j => h.frozenAt j⟩⟩
/-- A slice of integers that came in: what it reads as. -/
theorem open_ints_rd {H : Type} {enc : TypeId × Value → H} {P : Program} {w : World} {base : Nat} {held : Bool} {t e : TypeId} {k : IntKind} {a : Option Addr} {len cap : Nat} {x : DataW H × List MemPlace}
    (ht : P.underlying t = some (.slice e)) (he : P.underlying e = some (.int k)) (hc : P.cellsOf e = 1) (h : ∃ fuel, DataW.trod enc P w base (fun _ => true) held fuel t (Value.slice a len cap).cells.toList = some x) :
    ∃ zs : List Int, len = zs.length ∧ Rd w (.slice a len cap) zs.length 1 (zs.map (Value.int k)) ∧ (∀ n ∈ zs, (Lit.int k n).wf = true) ∧
      (zs = [] ∨ ∃ elems sp, x.1 = .slice elems sp ∧ elems.length = zs.length) := by
  obtain ⟨fuel, hf⟩ := h
  rcases Go.ChangeShapes.open_ints ht he hc hf with ⟨hcs, _⟩ | ⟨y, l, c, zs, hcs, _, hl, hm, hz, hx, hcell, hwz⟩
  · simp [Value.cells] at hcs
    obtain ⟨rfl, rfl, rfl⟩ := hcs
    exact ⟨[], rfl, ⟨rfl, .inl ⟨⟨_, rfl⟩, rfl⟩⟩, by simp, .inl rfl⟩
  · simp [Value.cells] at hcs
    obtain ⟨rfl, rfl, rfl⟩ := hcs
    simp only [if_true] at hz
    have hzl : len ≤ zs.length := by omega
    have hlen : (zs.take len).length = len := by rw [List.length_take]; omega
    refine ⟨zs.take len, hlen.symm, ?_, fun n hn => hwz n (List.mem_of_mem_take hn), .inr ⟨_, _, by rw [hx], by simp [Go.ChangeShapes.lits]⟩⟩
    rw [hlen]
    refine ⟨by simp; omega, ?_⟩
    by_cases hzc : zs.length = 0
    · have h0 : len = 0 := by omega
      have h1 : cap = 0 := by omega
      subst h0 h1
      exact .inl ⟨⟨_, rfl⟩, rfl⟩
    · have h0 := hcell 0 (by omega)
      have hsp : y.spot = none := by
        simp only [Addr.add, if_true, World.cell?] at h0
        split at h0
        · split at h0
          · cases h0
          · rename_i hs; simpa using hs
        · cases h0
      obtain ⟨b, o, s⟩ := y
      simp only at hsp
      subst hsp
      refine .inr ⟨b, o, cap, rfl, hl, hm, ?_⟩
      intro i v hv
      have hi : i < len := by
        rcases Nat.lt_or_ge i len with h | h
        · exact h
        · rw [List.getElem?_eq_none (by simp; omega)] at hv; cases hv
      have := hcell i (by omega)
      rw [addr_add] at this
      rw [this]
      rw [List.getElem?_map, List.getElem?_take, if_pos hi, List.getElem?_eq_getElem (by omega)] at hv
      simp only [Option.map_some, Option.some.injEq] at hv
      simp [List.getD, List.getElem?_eq_getElem (show i < zs.length by omega), hv]
end Go.Proofs.YthonbfojpbfmgaaGreatDoor

/- Package bitvec's small functions on widths and places. -/
set_option maxRecDepth 512
set_option linter.unusedVariables false
set_option linter.unusedSimpArgs false
set_option linter.unnecessarySimpa false
namespace Go.Proofs.YthonbfojpbfmgaaGreatDoor
open Go.RowKit

theorem ret_i64 {a b : Int} (h : a = b) : Ending.returned (.int .i64 a) = .returned (.int .i64 b) := by rw [h]
theorem ret_u64 {a b : Int} (h : a = b) : Ending.returned (.int .u64 a) = .returned (.int .u64 b) := by rw [h]
theorem ret_bool {a b : Bool} (h : a = b) : Ending.returned (.bool a) = .returned (.bool b) := by rw [h]

theorem inLimits_any (wd n : Int) (w : World) :
    Calls Tryz.prog 144 #[.int .i64 wd, .int .i64 n] w fun e w' => e = .returned (.bool (decide (0 ≤ wd ∧ wd ≤ 64 ∧ 0 ≤ n ∧ n ≤ 65536))) ∧ w' = w := by
  go_enter Tryz.func144, Tryz.ntmps144
  go_wp2
  all_goals go_ret
  all_goals refine ⟨ret_bool ?_, rfl⟩
  all_goals simp only [Bool.and_true, Bool.and_false, Bool.true_and, Bool.false_and, ← Bool.decide_and, decide_eq_decide, true_eq_decide_iff, false_eq_decide_iff]
  all_goals omega

theorem pow_le_64 {k : Nat} (h : k ≤ 64) : 2 ^ k ≤ 18446744073709551616 := by
  have : 2 ^ k ≤ 2 ^ 64 := Nat.pow_le_pow_right (by omega) h
  simpa using this
theorem wrap_u64_nat (n : Nat) (h : n < 18446744073709551616) : IntKind.u64.wrap (n : Int) = (n : Int) := by rw [IntKind.wrap_u64]; omega
theorem low_bits (k : Nat) (hk : k ≤ 64) : IntKind.u64.wrap (IntKind.u64.wrap (2 ^ k) - 1) = ((2 ^ k - 1 : Nat) : Int) := by
  have h := pow_le_64 hk
  have h0 : 0 < 2 ^ k := Nat.pow_pos (by omega)
  have e : ((2 : Int) ^ k) = ((2 ^ k : Nat) : Int) := by simp
  rw [e, IntKind.wrap_u64, IntKind.wrap_u64]
  omega

theorem wrap_shl (p q : Nat) (h : p * 2 ^ q < 18446744073709551616) : IntKind.u64.wrap ((p : Int) * 2 ^ q) = ((p * 2 ^ q : Nat) : Int) := by
  have e : ((p : Int) * 2 ^ q) = ((p * 2 ^ q : Nat) : Int) := by simp
  rw [e, wrap_u64_nat _ h]
/-- one lane more in a word -/
theorem or_lane (a p wd j : Nat) (ha : a < 2 ^ (wd * j)) (hp : p < 2 ^ wd) (hj : (j + 1) * wd ≤ 64) :
    bits BinOp.or IntKind.u64 (a : Int) (IntKind.u64.wrap ((p : Int) * 2 ^ (j * wd))) = ((a + p * 2 ^ (wd * j) : Nat) : Int) := by
  rw [Nat.mul_comm wd j] at ha ⊢
  have h1 : (p + 1) * 2 ^ (j * wd) ≤ 2 ^ wd * 2 ^ (j * wd) := Nat.mul_le_mul_right _ hp
  rw [← Nat.pow_add, Nat.add_comm wd, Nat.add_mul, Nat.one_mul] at h1
  have h2 : 2 ^ (j * wd + wd) ≤ 18446744073709551616 := pow_le_64 (by rw [Nat.add_mul, Nat.one_mul] at hj; exact hj)
  have h3 : p * 2 ^ (j * wd) < 18446744073709551616 := by omega
  rw [wrap_shl p _ h3, u64_or_nat _ _ (by omega) h3]
  congr 1
  rw [Nat.or_comm, nat_join (j * wd) _ _ (Nat.mul_mod_left _ _) ha, Nat.add_comm]

theorem lowBits_any (k : Nat) (w : World) (hk : k ≤ 64) :
    Calls Tryz.prog 68 #[.int .i64 k] w fun e w' => e = .returned (.int .u64 ((2 ^ k - 1 : Nat) : Int)) ∧ w' = w := by
  go_enter Tryz.func68, Tryz.ntmps68
  go_wp2
  go_ret
  exact ⟨ret_u64 (low_bits k hk), rfl⟩

theorem lanesPerWord_any (wd p : Nat) (w : World) (h0 : 0 < wd) (hk : wd ≤ 64) (hp : 64 / wd = p) :
    Calls Tryz.prog 96 #[.int .i64 wd] w fun e w' => e = .returned (.int .i64 p) ∧ w' = w := by
  have HP := hid hp
  clear hp
  go_enter Tryz.func96, Tryz.ntmps96
  go_wp2
  all_goals go_ret
  exact ⟨ret_i64 (by rw [← HP.out]; simp), rfl⟩

theorem laneWords_any (wd n m : Nat) (w : World) (hk : wd ≤ 64) (hn : n ≤ 65536) (hm : L.nWords wd n = m) :
    Calls Tryz.prog 145 #[.int .i64 wd, .int .i64 n] w fun e w' => e = .returned (.int .i64 m) ∧ w' = w := by
  by_cases h0 : wd = 0
  · subst h0
    obtain rfl : m = 0 := by rw [← hm]; rfl
    go_enter Tryz.func145, Tryz.ntmps145
    go_wp2
    go_ret
    exact ⟨rfl, rfl⟩
  · have h1 : ((wd : Int) == 0) = false := by simpa using h0
    have hp := L.per_pos (by omega) hk
    have hp2 : 64 / wd ≤ 64 := Nat.div_le_self 64 wd
    rw [L.nWords_pos (w := wd) (by omega) n] at hm
    obtain ⟨p, hP⟩ : ∃ p, 64 / wd = p := ⟨_, rfl⟩
    rw [hP] at hm hp hp2
    have HM := hid hm
    have HP := hid hP
    clear hm hP
    go_enter Tryz.func145, Tryz.ntmps145
    go_wp2_with (go_at_call 96; refine (lanesPerWord_any wd p _ (by omega) (by omega) HP.out).mono ?_; rintro e w' ⟨rfl, rfl⟩)
    all_goals go_ret
    refine ⟨ret_i64 ?_, rfl⟩
    rw [← HM.out]
    have e : ((n : Int) + p - 1) = ((n + p - 1 : Nat) : Int) := by omega
    rw [e]; simp

/-- how many of n lanes lie in word k -/
theorem lanesInWord_any (wd n k m : Nat) (w : World) (h0 : 0 < wd) (hk : wd ≤ 64) (hn : n ≤ 65536) (hkn : k * (64 / wd) ≤ n) (hm : L.inWord wd n k = m) :
    Calls Tryz.prog 93 #[.int .i64 wd, .int .i64 n, .int .i64 k] w fun e w' => e = .returned (.int .i64 m) ∧ w' = w := by
  have hp := L.per_pos (by omega) hk
  have hp2 : 64 / wd ≤ 64 := Nat.div_le_self 64 wd
  unfold L.inWord at hm
  obtain ⟨p, hP⟩ : ∃ p, 64 / wd = p := ⟨_, rfl⟩
  rw [hP] at hm hp hp2 hkn
  have hk2 : k ≤ n := Nat.le_trans (Nat.le_mul_of_pos_right k hp) hkn
  obtain ⟨q, hq⟩ : ∃ q, k * p = q := ⟨_, rfl⟩
  have hq' : (k : Int) * (p : Int) = (q : Int) := by rw [← hq]; simp
  rw [hq] at hm hkn
  have HM := hid hm
  have HP := hid hP
  clear hm hP
  go_enter Tryz.func93, Tryz.ntmps93
  go_wp2_with (go_at_call 96; refine (lanesPerWord_any wd p _ (by omega) (by omega) HP.out).mono ?_; rintro e w' ⟨rfl, rfl⟩)
  all_goals go_ret
  all_goals refine ⟨ret_i64 ?_, rfl⟩
  all_goals rw [← HM.out]
  all_goals omega

set_option maxHeartbeats 400000 in
/-- a word's values into one word -/
theorem packWord_any (v : Value) (xs : List Nat) (wd : Nat) (w : World) (hx : Rd w v xs.length 1 (u64s xs)) (h0 : 0 < wd) (hk : wd ≤ 64) (hl : xs.length * wd ≤ 64) (hv : ∀ x ∈ xs, x < 2 ^ wd) :
    Calls Tryz.prog 244 #[v, .int .i64 wd] w fun e w' => e = .returned (.int .u64 (L.wordOf wd xs : Nat)) ∧ w' = w := by
  have hl64 : xs.length ≤ 64 := Nat.le_trans (Nat.le_mul_of_pos_right _ h0) hl
  obtain ⟨A, ca, rfl, hlc, hcm, hA⟩ := hx.form
  clear hx
  go_enter Tryz.func244, Tryz.ntmps244
  go_wp2
  go_loop [5, 10] (fun u i => ∃ j : Nat, j ≤ xs.length ∧ i = .int .i64 j ∧ u = .int .u64 (L.wordOf wd (xs.take j) : Nat)) (fun _ i => xs.length - (intOf i).toNat)
  case atStart => exact ⟨0, by omega, rfl, by simp [L.wordOf]⟩
  case round =>
    obtain ⟨j, hj, rfl, rfl⟩ := hrel
    have hlt64 : L.wordOf wd (xs.take j) < 2 ^ (wd * j) := by
      have := L.wordOf_lt wd (xs.take j) fun x hx => hv x (List.mem_of_mem_take hx)
      rwa [List.length_take, Nat.min_eq_left hj] at this
    by_cases hlt : j < xs.length
    · obtain ⟨b, o, rfl, hs⟩ := hA (by omega)
      have c1 := hs.word j hlt
      have hvj : xs.getD j 0 < 2 ^ wd := hv _ (by simp [List.getD, List.getElem?_eq_getElem hlt])
      have hsn : L.wordOf wd (xs.take (j + 1)) = L.wordOf wd (xs.take j) + xs.getD j 0 * 2 ^ (wd * j) := by
        rw [List.take_succ_eq_append_getElem hlt, L.wordOf_snoc, List.length_take, Nat.min_eq_left hj]
        simp [List.getD, List.getElem?_eq_getElem hlt]
      have hjw : (j + 1) * wd ≤ 64 := Nat.le_trans (Nat.mul_le_mul_right wd hlt) hl
      have HO := hid (or_lane (L.wordOf wd (xs.take j)) (xs.getD j 0) wd j hlt64 hvj hjw)
      rw [← hsn] at HO
      obtain ⟨q, hq⟩ : ∃ q, j * wd = q := ⟨_, rfl⟩
      have hq' : (j : Int) * (wd : Int) = (q : Int) := by rw [← hq]; simp
      have hq64 : q ≤ 64 := by rw [← hq]; exact Nat.le_trans (Nat.mul_le_mul_right wd (by omega)) hl
      rw [hq] at HO
      clear hq hsn hA hs hv hvj hlt64
      generalize xs.getD j 0 = p at *
      generalize L.wordOf wd (xs.take j) = a at *
      go_wp2
      go_round
      case rel => exact ⟨j + 1, by omega, by go_num, by rw [HO.out]⟩
      case measure => simp [intOf]; omega
    · go_wp2
      go_ret
      rw [show j = xs.length from by omega, List.take_length]
      exact ⟨rfl, rfl⟩

def okLim (wd n : Int) : Bool := decide (0 ≤ wd ∧ wd ≤ 64 ∧ 0 ≤ n ∧ n ≤ 65536)
/-- is the list of words a packing of n lanes of width wd? -/
def okPack (wd n : Int) (ws : List Nat) : Bool := okLim wd n && decide (L.packL wd.toNat (L.lanesL wd.toNat n.toNat ws) = ws)
theorem okPack_not {wd n : Int} (ws : List Nat) (h : ¬ (0 ≤ wd ∧ wd ≤ 64 ∧ 0 ≤ n ∧ n ≤ 65536)) : okPack wd n ws = false := by simp [okPack, okLim, h]
theorem okPack_nat {wd n : Nat} (ws : List Nat) (h : wd ≤ 64) (hn : n ≤ 65536) : okPack wd n ws = true ↔ L.IsPack wd n ws := by
  rw [L.isPack_iff h]
  simp [okPack, okLim]
  omega

theorem andNot_low (a s : Nat) (ha : a < 18446744073709551616) (hs : s ≤ 64) : bits BinOp.andNot IntKind.u64 (a : Int) ((2 ^ s - 1 : Nat) : Int) = ((a / 2 ^ s * 2 ^ s : Nat) : Int) := by
  have h := pow_le_64 hs
  have h0 : 0 < 2 ^ s := Nat.pow_pos (by omega)
  rw [u64_andNot_nat _ _ ha (by omega)]
  congr 1
  apply Nat.eq_of_testBit_eq
  intro i
  have e : 18446744073709551615 - (2 ^ s - 1) = 2 ^ 64 - ((2 ^ s - 1) + 1) := by omega
  rw [Nat.testBit_and, e, Nat.testBit_two_pow_sub_succ (by omega), Nat.testBit_two_pow_sub_one, Nat.testBit_mul_two_pow, Nat.testBit_div_two_pow]
  by_cases h1 : s ≤ i
  · by_cases h2 : i < 64
    · simp [h1, h2]
    · have : a.testBit i = false := Nat.testBit_lt_two_pow (Nat.lt_of_lt_of_le ha (by
        have : 2 ^ 64 ≤ 2 ^ i := Nat.pow_le_pow_right (by omega) (by omega)
        simpa using this))
      simp [h1, h2, this]
  · simp [h1]; intros; omega
theorem andNot_test (a s : Nat) (ha : a < 18446744073709551616) (hs : s ≤ 64) : (bits BinOp.andNot IntKind.u64 (a : Int) ((2 ^ s - 1 : Nat) : Int) != 0) = decide (¬ a < 2 ^ s) := by
  have h0 : 0 < 2 ^ s := Nat.pow_pos (by omega)
  rw [andNot_low a s ha hs]
  by_cases h : a < 2 ^ s
  · simp [Nat.div_eq_of_lt h, h]
  · have h1 : 0 < a / 2 ^ s := Nat.div_pos (by omega) h0
    have h2 : 0 < a / 2 ^ s * 2 ^ s := Nat.mul_pos h1 h0
    have h3 : ((a / 2 ^ s * 2 ^ s : Nat) : Int) ≠ 0 := by omega
    have h4 : (((a / 2 ^ s * 2 ^ s : Nat) : Int) != 0) = true := by rw [bne_iff_ne]; exact h3
    rw [h4]; simp [h]

set_option maxHeartbeats 1000000 in
theorem isPacking_any (v : Value) (xs : List Nat) (wd n : Int) (w : World) (hx : Rd w v xs.length 1 (u64s xs)) (hv : ∀ x ∈ xs, x < 18446744073709551616) (hl : xs.length ≤ maxLen) :
    Calls Tryz.prog 88 #[v, .int .i64 wd, .int .i64 n] w fun e w' => e = .returned (.bool (okPack wd n xs)) ∧ w' = w := by
  unfold maxLen at hl
  obtain ⟨A, ca, rfl, hlc, hcm, hA⟩ := hx.form
  clear hx
  by_cases hin : 0 ≤ wd ∧ wd ≤ 64 ∧ 0 ≤ n ∧ n ≤ 65536
  · obtain ⟨wd, rfl⟩ := Int.eq_ofNat_of_zero_le hin.1
    obtain ⟨n, rfl⟩ := Int.eq_ofNat_of_zero_le hin.2.2.1
    have hwd : wd ≤ 64 := by omega
    have hn : n ≤ 65536 := by omega
    have HI := hid hin
    have hiff := okPack_nat xs hwd hn
    obtain ⟨m, hm⟩ : ∃ m, L.nWords wd n = m := ⟨_, rfl⟩
    have HM := hid hm
    have HF := hid hiff
    clear hin hm hiff
    go_enter Tryz.func88, Tryz.ntmps88
    by_cases hne : xs.length = m
    · have e1 : (((xs.length : Int)) != (m : Int)) = false := by rw [hne]; simp
      have HN := hid hne
      clear hne
      go_wp2_with (first
        | (go_at_call 144; refine (inLimits_any _ _ _).mono ?_; rintro e w' ⟨rfl, rfl⟩; rw [decide_eq_true HI.out])
        | (go_at_call 145; refine (laneWords_any _ _ m _ (by omega) (by omega) HM.out).mono ?_; rintro e w' ⟨rfl, rfl⟩))
      go_loop [23] (fun i => ∃ k : Nat, k ≤ xs.length ∧ i = .int .i64 k ∧ ∀ t, t < k → xs.getD t 0 < 2 ^ (L.inWord wd n t * wd)) (fun i => xs.length - (intOf i).toNat)
      case atStart => exact ⟨0, by omega, rfl, fun t h => absurd h (Nat.not_lt_zero t)⟩
      case round =>
        obtain ⟨k, hk, rfl, hall⟩ := hrel
        have HA := hid hall
        clear hall
        by_cases hlt : k < xs.length
        · obtain ⟨b, o, rfl, hs⟩ := hA (by omega)
          have c1 := hs.word k hlt
          have hvk : xs.getD k 0 < 18446744073709551616 := hv _ (by simp [List.getD, List.getElem?_eq_getElem hlt])
          have hw0 : 0 < wd := by
            rcases Nat.eq_zero_or_pos wd with h | h
            · exfalso; subst h; have := HM.out; rw [L.nWords_zero] at this; have := HN.out; omega
            · exact h
          have hkp : k * (64 / wd) < n := (L.lt_nWords hw0 hwd).1 (by rw [HM.out, ← HN.out]; exact hlt)
          obtain ⟨c, hc⟩ : ∃ c, L.inWord wd n k = c := ⟨_, rfl⟩
          have hcw : c * wd ≤ 64 := by rw [← hc]; exact L.inWord_le wd n k
          obtain ⟨q, hq⟩ : ∃ q, c * wd = q := ⟨_, rfl⟩
          have hq' : (c : Int) * (wd : Int) = (q : Int) := by rw [← hq]; simp
          rw [hq] at hcw
          have HT := hid (andNot_test (xs.getD k 0) q hvk hcw)
          have HC := hid hc
          have HKP := hid (Nat.le_of_lt hkp)
          have HG : Hid (xs.getD k 0 < 2 ^ q → ∀ t, t < k + 1 → xs.getD t 0 < 2 ^ (L.inWord wd n t * wd)) := by
            intro h t ht
            by_cases htk : t = k
            · subst htk; rw [hc, hq]; exact h
            · exact HA.out t (by omega)
          have HB : Hid (¬ xs.getD k 0 < 2 ^ q → okPack (wd : Int) (n : Int) xs = false) := by
            intro h
            rw [← Bool.not_eq_true, HF.out]
            intro hp
            have := hp.2 k hlt
            rw [hc, hq] at this
            exact h this
          clear hA hs hv hq hc hkp
          generalize xs.getD k 0 = p at *
          generalize hz : 2 ^ q - 1 = z at *
          have HZ := hid hz
          clear hz
          go_wp2_with (first
            | (go_at_call 93; refine (lanesInWord_any _ _ _ c _ (by omega) (by omega) (by omega) HKP.out HC.out).mono ?_; rintro e w' ⟨rfl, rfl⟩)
            | (go_at_call 68; refine (lowBits_any q _ (by omega)).mono ?_; rintro e w' ⟨rfl, rfl⟩; rw [HZ.out]))
          · rename_i h
            go_ret
            rw [HT.out] at h
            exact ⟨ret_bool (HB.out (by simpa using h)).symm, rfl⟩
          · rename_i h
            go_round
            case rel => exact ⟨k + 1, by omega, by go_num, HG.out (by rw [HT.out] at h; simpa using h)⟩
            case measure => simp [intOf]; omega
        · go_wp2
          go_ret
          refine ⟨ret_bool (HF.out.2 ⟨?_, ?_⟩).symm, rfl⟩
          · rw [HM.out]; exact HN.out
          · intro t ht; exact HA.out t (by omega)
    · have e1 : (((xs.length : Int)) != (m : Int)) = true := by rw [bne_iff_ne]; omega
      go_wp2_with (first
        | (go_at_call 144; refine (inLimits_any _ _ _).mono ?_; rintro e w' ⟨rfl, rfl⟩; rw [decide_eq_true HI.out])
        | (go_at_call 145; refine (laneWords_any _ _ m _ (by omega) (by omega) HM.out).mono ?_; rintro e w' ⟨rfl, rfl⟩))
      go_ret
      refine ⟨ret_bool ?_, rfl⟩
      symm
      rw [← Bool.not_eq_true, HF.out]
      exact fun h => hne (h.1.trans HM.out)
  · have hno := okPack_not xs hin
    go_enter Tryz.func88, Tryz.ntmps88
    go_wp2_with (go_at_call 144; refine (inLimits_any _ _ _).mono ?_; rintro e w' ⟨rfl, rfl⟩; rw [decide_eq_false hin])
    go_ret
    exact ⟨ret_bool hno.symm, rfl⟩
end Go.Proofs.YthonbfojpbfmgaaGreatDoor

/- The plain answers' small functions: below, laneBit, bitAt. -/
set_option maxRecDepth 512
set_option linter.unusedVariables false
set_option linter.unusedSimpArgs false
set_option linter.unnecessarySimpa false
namespace Go.Proofs.YthonbfojpbfmgaaGreatDoor
open Go.RowKit

/-- the bit at a place, over all words; beyond them none is set -/
def bitOf (xs : List Nat) (i : Nat) : Bool := (xs.getD (i / 64) 0).testBit (i % 64)

end Go.Proofs.YthonbfojpbfmgaaGreatDoor

/- The laws' own helpers over words: clip, layWords, sameWords, spoilWords, copyWords. -/
set_option linter.unusedVariables false
set_option linter.unusedSimpArgs false
set_option linter.unnecessarySimpa false
set_option maxRecDepth 20000
namespace Go.Proofs.YthonbfojpbfmgaaGreatDoor
open Go.RowKit

theorem Tryz.info45 : (Tryz.prog.info? 40).map (fun i => (i.zero, i.size, i.bytes)) = some (some (.int .u64 0), 1, 8) := by kernel_rfl

end Go.Proofs.YthonbfojpbfmgaaGreatDoor
