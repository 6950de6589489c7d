/- Memory words for the walks of this seat: rows of cells that the call owns, slices that it reads, and how they stand when the memory grows. -/
import Derived.WalkKit
import Derived.BigQuiet
import Derived.Deep.QuietTactic
import Derived.Laws.CopyOwn
import Derived.WalkSmall
import Derived.ProofKit
import Derived.SizedLaws
set_option linter.unusedVariables false
set_option linter.unusedSimpArgs false
set_option linter.unnecessarySimpa false
namespace Go.Proofs.YtdlkdiaobbakiaaGreatDoor
open Go.RowKit

/-- The cells from offset o of block b hold the values cs. -/
def Seg (w : World) (b o : Nat) (cs : List Value) : Prop := ∀ i v, cs[i]? = some v → w.cell? ⟨b, o + i, none⟩ = some v
/-- v is a slice of n elements of sz cells each, which hold cs. -/
def Rd (w : World) (v : Value) (n sz : Nat) (cs : List Value) : Prop :=
  cs.length = n * sz ∧ (((∃ A, v = .slice A 0 0) ∧ n = 0) ∨ ∃ b o cap, v = .slice (some ⟨b, o, none⟩) n cap ∧ n ≤ cap ∧ cap ≤ maxLen ∧ Seg w b o cs)
/-- Block g is a row of cells of the call's own that holds cs, to its end. -/
def Row (w : World) (g : Nat) (e : TypeId) (cs : List Value) : Prop := w.heap[g]? = some (.cells cs.toArray e (0, 0))
def u64 (n : Nat) : Value := .int .u64 (n : Int)
def i64 (n : Int) : Value := .int .i64 n
def u64s (xs : List Nat) : List Value := xs.map u64

theorem u64s_length (xs : List Nat) : (u64s xs).length = xs.length := by simp [u64s]
theorem u64s_get (xs : List Nat) (i : Nat) (h : i < xs.length) : (u64s xs)[i]? = some (.int .u64 ((xs.getD i 0 : Nat) : Int)) := by
  simp [u64s, u64, List.getElem?_eq_getElem h, List.getD]
theorem oneCell_u64s (xs : List Nat) : ∀ u ∈ u64s xs, u.oneCell' = true := by
  intro u hu; simp only [u64s, List.mem_map] at hu; obtain ⟨n, _, rfl⟩ := hu; rfl

theorem addr_add (b o j : Nat) : (⟨b, o, none⟩ : Addr).add j = ⟨b, o + j, none⟩ := by unfold Addr.add; split <;> simp_all

theorem Seg.mono {w w' : World} {b o : Nat} {cs : List Value} (h : Seg w b o cs) (hb : Below w.heap.size w w') : Seg w' b o cs := by
  intro i v hv
  have h1 := h i v hv
  rw [← h1]
  exact hb.cell (p := ⟨b, o + i, none⟩) (World.block_lt_of_cell? w _ h1)
theorem Rd.mono {w w' : World} {v : Value} {n sz : Nat} {cs : List Value} (h : Rd w v n sz cs) (hb : Below w.heap.size w w') : Rd w' v n sz cs := by
  refine ⟨h.1, ?_⟩
  rcases h.2 with h | ⟨b, o, cap, rfl, h1, h2, h3⟩
  · exact .inl h
  · exact .inr ⟨b, o, cap, rfl, h1, h2, h3.mono hb⟩
theorem bthen {a b c : World} (h : Below a.heap.size a b) (k : Below b.heap.size b c) : Below a.heap.size a c := h.trans (k.mono h.size)
theorem bdrew {a b : World} (h : Below a.heap.size a b) (n : Nat) : Below a.heap.size a (b.drewN n) := Go.below_drewN h n
theorem brefl (a : World) : Below a.heap.size a a := Below.refl _ _
theorem Below.then {a b c : World} (h : Below a.heap.size a b) (k : Below b.heap.size b c) : Below a.heap.size a c := h.trans (k.mono h.size)
theorem Below.then' {B : Nat} {a b c : World} (h : Below B a b) (k : Below b.heap.size b c) (hB : B ≤ b.heap.size) : Below B a c := h.trans (k.mono hB)

theorem Row.lt {w : World} {g : Nat} {e : TypeId} {cs : List Value} (h : Row w g e cs) : g < w.heap.size := (Array.getElem?_eq_some_iff.1 h).1
theorem Row.cell {w : World} {g : Nat} {e : TypeId} {cs : List Value} (h : Row w g e cs) (i : Nat) : w.cell? ⟨g, i, none⟩ = cs[i]? := by
  simp [World.cell?, show w.heap[g]? = _ from h]
theorem Row.frozen {w : World} {g : Nat} {e : TypeId} {cs : List Value} (h : Row w g e cs) (i : Nat) : w.frozen? ⟨g, i, none⟩ = false := by
  simp [World.frozen?, show w.heap[g]? = _ from h]
theorem Row.seg {w : World} {g : Nat} {e : TypeId} {cs : List Value} (h : Row w g e cs) (o n : Nat) : Seg w g o ((cs.drop o).take n) := by
  intro i v hv
  rw [h.cell]
  rw [List.getElem?_take] at hv
  split at hv
  · simpa using hv
  · cases hv
theorem Row.mono {w w' : World} {g : Nat} {e : TypeId} {cs : List Value} (h : Row w g e cs) (hb : Below w.heap.size w w') : Row w' g e cs := by
  unfold Row; rw [hb.block g h.lt]; exact h
theorem Row.below {B : Nat} {w w' : World} {g : Nat} {e : TypeId} {cs : List Value} (h : Row w g e cs) (hb : Below B w w') (hg : g < B) : Row w' g e cs := by
  unfold Row; rw [hb.block g hg]; exact h
/-- a store into the row -/
theorem Row.set {w : World} {g : Nat} {e : TypeId} {cs : List Value} (h : Row w g e cs) (i : Nat) (v : Value) : Row (w.setCell ⟨g, i, none⟩ v) g e (cs.set i v) := by
  have h' : w.heap[g]? = some (.cells cs.toArray e (0, 0)) := h
  have := heap_setCell_same w g i cs.toArray e v h'
  unfold Row; rw [this]; simp
/-- a store into another row -/
theorem Row.other {w : World} {g : Nat} {e : TypeId} {cs : List Value} (h : Row w g e cs) {a : Addr} (v : Value) (hne : g ≠ a.block) : Row (w.setCell a v) g e cs := by
  unfold Row; rw [heap_setCell_other w a g v hne]; exact h
theorem Row.rd {w : World} {g : Nat} {e : TypeId} {cs : List Value} (h : Row w g e cs) (o n cap : Nat) (h1 : o + n ≤ cs.length) (h2 : n ≤ cap) (h3 : cap ≤ maxLen) :
    Rd w (.slice (some ⟨g, o, none⟩) n cap) n 1 ((cs.drop o).take n) :=
  ⟨by simp; omega, .inr ⟨g, o, cap, rfl, h2, h3, h.seg o n⟩⟩
theorem Row.rd' {w : World} {g : Nat} {e : TypeId} {cs : List Value} {n : Nat} (h : Row w g e cs) (hn : cs.length = n) (hm : n ≤ maxLen) : Rd w (.slice (some ⟨g, 0, none⟩) n n) n 1 cs := by
  subst hn
  have := h.rd 0 cs.length cs.length (by omega) (Nat.le_refl _) hm
  rwa [List.drop_zero, List.take_length] at this
theorem below_set {B : Nat} {a w : World} (h : Below B a w) (b o : Nat) (u : Value) (hb : B ≤ b) : Below B a (w.setCell ⟨b, o, none⟩ u) := h.setCell (p := ⟨b, o, none⟩) hb u
theorem Rd.drew {w : World} {v : Value} {n sz : Nat} {cs : List Value} (h : Rd w v n sz cs) : Rd w.drew v n sz cs := h

theorem toList_madeCells (z : Value) (n : Nat) : (madeCells #[z] (n * 1)).toList = List.replicate n z := by rw [Nat.mul_one]; exact toList_madeCells_one z n

/-- What a slice of words looks like, and its cells. -/
theorem Rd.form {w : World} {v : Value} {n sz : Nat} {cs : List Value} (h : Rd w v n sz cs) :
    ∃ A cap, v = .slice A n cap ∧ n ≤ cap ∧ cap ≤ maxLen ∧ (0 < n → ∃ b o, A = some ⟨b, o, none⟩ ∧ Seg w b o cs) := by
  rcases h.2 with ⟨⟨A, rfl⟩, rfl⟩ | ⟨b, o, cap, rfl, h1, h2, hs⟩
  · exact ⟨A, 0, rfl, Nat.le_refl _, Nat.zero_le _, fun h => by omega⟩
  · exact ⟨_, _, rfl, h1, h2, fun _ => ⟨b, o, rfl, hs⟩⟩
theorem Seg.word {w : World} {b o : Nat} {xs : List Nat} (h : Seg w b o (u64s xs)) (i : Nat) (hi : i < xs.length) : w.cell? ⟨b, o + i, none⟩ = some (.int .u64 ((xs.getD i 0 : Nat) : Int)) :=
  h i _ (u64s_get xs i hi)
/-- a whole row of the call's own, as the kit's laws have it -/
theorem Row.owns {w : World} {g B : Nat} {e : TypeId} {cs : List Value} {n : Nat} (h : Row w g e cs) (hB : B ≤ g) (hn : cs.length = n) (hm : n ≤ maxLen) :
    w.ownsRow B e 1 (.slice (some ⟨g, 0, none⟩) n n) n cs :=
  ⟨by omega, .inr ⟨g, n, cs.toArray, rfl, hB, h, Nat.le_refl _, hm, by simp [hn], by rw [Nat.mul_one, ← hn, List.toList_toArray, List.take_length]⟩⟩
theorem owns_rd {w : World} {B : Nat} {e : TypeId} {v : Value} {n : Nat} {cs : List Value} (h : w.ownsRow B e 1 v n cs) : Rd w v n 1 cs := by
  refine ⟨by have := h.1; omega, ?_⟩
  rcases h.2 with ⟨rfl, rfl⟩ | ⟨g, cap, cur, rfl, hb, hg, hnc, hcm, hcs, htake⟩
  · exact .inl ⟨⟨_, rfl⟩, rfl⟩
  · refine .inr ⟨g, 0, cap, rfl, hnc, hcm, ?_⟩
    intro i v hv
    have := h.cells (g := g) rfl i v hv
    rwa [addr_add] at this
theorem owns_below {w w' : World} {B : Nat} {e : TypeId} {v : Value} {n : Nat} {cs : List Value} (h : w.ownsRow B e 1 v n cs) (hb : Below w.heap.size w w') : w'.ownsRow B e 1 v n cs := by
  refine ⟨h.1, ?_⟩
  rcases h.2 with hn | ⟨g, cap, cur, rfl, hb', hg, r⟩
  · exact .inl hn
  · exact .inr ⟨g, cap, cur, rfl, hb', by rw [hb.block g (Array.getElem?_eq_some_iff.1 hg).1]; exact hg, r⟩
/-- a part of a slice that is read -/
theorem Rd.part {w : World} {b o n cap : Nat} {cs : List Value} (h : Seg w b o cs) (l m : Nat) (hl : cs.length = n) (hlm : l + m ≤ n) (hc : l + m ≤ cap) (hm : cap ≤ maxLen) :
    Rd w (.slice (some ⟨b, o + l, none⟩) m (cap - l)) m 1 ((cs.drop l).take m) := by
  refine ⟨by simp; omega, .inr ⟨b, o + l, cap - l, rfl, by omega, by omega, ?_⟩⟩
  intro i v hv
  rw [List.getElem?_take] at hv
  split at hv
  · rw [List.getElem?_drop] at hv
    have := h (l + i) v hv
    rwa [← Nat.add_assoc] at this
  · cases hv
theorem hid {p : Prop} (h : p) : Hid p := h
theorem get_fill (A : List Value) (n : Nat) (z : Value) (i : Nat) (hi : i = A.length) (hn : 0 < n) : (A ++ List.replicate n z)[i]? = some z := by
  subst hi
  rw [List.getElem?_append_right (Nat.le_refl _), Nat.sub_self, List.getElem?_replicate, if_pos hn]
theorem set_fill (A : List Value) (n : Nat) (z v : Value) (i : Nat) (hi : i = A.length) (hn : 0 < n) : (A ++ List.replicate n z).set i v = A ++ [v] ++ List.replicate (n - 1) z := by
  subst hi
  rw [List.set_append_right _ _ (Nat.le_refl _)]
  obtain ⟨k, rfl⟩ : ∃ k, n = k + 1 := ⟨n - 1, by omega⟩
  simp [List.replicate_succ]
theorem u64s_append (xs ys : List Nat) : u64s (xs ++ ys) = u64s xs ++ u64s ys := by simp [u64s]
theorem if_u64 : (if IntKind.u64.signed = true then (-1 : Int) else IntKind.u64.max) = IntKind.u64.max := rfl
theorem not_u64 (x : Int) (n : Nat) (hx : x = (n : Int)) (hn : n < 18446744073709551616) :
    bits BinOp.xor IntKind.u64 IntKind.u64.max x = ((18446744073709551615 - n : Nat) : Int) := by
  subst hx
  have hmax : IntKind.u64.max = ((18446744073709551615 : Nat) : Int) := rfl
  rw [hmax, u64_xor_nat _ _ (by decide) hn]
  congr 1
  have e : (18446744073709551615 : Nat) = 2 ^ 64 - 1 := rfl
  apply Nat.eq_of_testBit_eq
  intro i
  have h2 : (18446744073709551615 - n) = 2 ^ 64 - 1 - n := rfl
  rw [Nat.testBit_xor, e, Nat.testBit_two_pow_sub_one]
  rw [show 2 ^ 64 - 1 - n = 2 ^ 64 - (n + 1) from by omega, Nat.testBit_two_pow_sub_succ (by omega)]
  by_cases h : i < 64
  · simp [h]
  · have : n.testBit i = false := Nat.testBit_lt_two_pow (Nat.lt_of_lt_of_le hn (by
      have : 2 ^ 64 ≤ 2 ^ i := Nat.pow_le_pow_right (by omega) (by omega)
      simpa using this))
    simp [h, this]
/-- Where the walk stands at an operation whose run it can't reckon. -/
theorem upon_ok {P : Program} {o : Oper} {a : Act} {K : Act → World → Prop} {Q : Exit → Act → World → Prop} {s : Sem Value} {w w1 : World} {v : Value}
    (h : Sem.run P s w = .ok v w1) (hk : K (a.put o.dst v) w1) : o.upon P a K Q ((Sem.run P s w).andThen fun b w' => Result.ok (Next.value b) w') := by
  rw [h]; exact hk

/-- 'make([]T, n)' for an element of one cell -/
theorem upon_make {P : Program} {w : World} {o : Oper} {a : Act} {K : Act → World → Prop} {Q : Exit → Act → World → Prop} {t : TypeId} {kl kc : IntKind} {L C : Int}
    (e : TypeId) (z : Value) (bytes : Nat) (h1 : P.underlying t = some (.slice e)) (h2 : (P.info? e).map (fun i => (i.zero, i.size, i.bytes)) = some (some z, 1, bytes)) (hz : z.cells = #[z])
    (n : Nat) (hL : L = (n : Int)) (hC : C = (n : Int)) (b2 : bytes * n ≤ 281474976710656) (b3 : n ≤ maxLen)
    (hK : ∀ w', Row w' w.heap.size e (List.replicate n z) → Below w.heap.size w w' → w'.heap.size = w.heap.size + 1 → K (a.put o.dst (.slice (some ⟨w.heap.size, 0, none⟩) n n)) w') :
    o.upon P a K Q ((Sem.run P (Instr.makeSlice t (.int kl L) (.int kc C)) w).andThen fun b w' => Result.ok (Next.value b) w') := by
  obtain ⟨i, hi, hz0, hz1, hz2⟩ := info_parts h2
  subst hL
  subst hC
  have hb : (i.bytes : Int) * (n : Int) ≤ 281474976710656 := by
    have h : ((i.bytes * n : Nat) : Int) ≤ 281474976710656 := by rw [hz2]; omega
    rwa [Int.natCast_mul] at h
  have h63 : (n : Int) ≤ 9223372036854775807 := by
    unfold maxLen at b3; omega
  have hr := run_make (P := P) w t e i z h1 hi hz0 kl kc n n (by omega) (Int.le_refl _) hb h63
  simp only [Int.toNat_natCast, hz1, hz] at hr
  refine upon_ok hr (hK _ ?_ ((Below.refl _ _).alloc (Nat.le_refl _) _) (by simp))
  unfold Row
  rw [heap_alloc_new]
  congr 2
  apply Array.ext'
  simp [toList_madeCells_one]

/-- 'copy(row, src)', a row of the call's own, an element of one cell; what is copied fits to the end of neither, or ends with the shorter -/
theorem upon_copy {P : Program} {w : World} {o : Oper} {a : Act} {K : Act → World → Prop} {Q : Exit → Act → World → Prop} {dT sT ty : TypeId}
    (elem : TypeId) (hu : P.underlying dT = some (.slice elem)) (hsz : (P.info? elem).map (·.size) = some 1)
    {g off dLen dCap : Nat} {v : Value} {t : TypeId} {cur src : List Value} {n : Nat} (hg : Row w g t cur) (hs : Rd w v n 1 src) (h1 : ∀ v ∈ src, v.oneCell' = true) (hfit : off + dLen ≤ cur.length)
    (hK : ∀ w', Row w' g t (cur.take off ++ (src.take (min n dLen) ++ cur.drop (off + min n dLen))) → (∀ k, k ≠ g → w'.heap[k]? = w.heap[k]?) → Below g w w' → w'.heap.size = w.heap.size → K (a.put o.dst (goInt (min n dLen : Nat))) w') :
    o.upon P a K Q ((Sem.run P (Builtin.copy_ #[dT, sT] ty #[.slice (some ⟨g, off, none⟩) dLen dCap, v]) w).andThen fun b w' => Result.ok (Next.value b) w') := by
  have hlen : src.length = n := by have := hs.1; omega
  rcases hs.2 with ⟨⟨A, rfl⟩, rfl⟩ | ⟨b, o', cap, rfl, h2, h3, hseg⟩
  · have : src = [] := List.eq_nil_of_length_eq_zero hlen
    subst this
    have hK' := hK w (by simpa using hg) (fun _ _ => rfl) (Below.refl _ _) rfl
    have hw : w.setRow g cur.toArray = w := setRow_self w g cur.toArray t (0, 0) hg
    cases A with
    | none =>
      have hi : ((P.info? elem).map (·.size)).isSome = true := by rw [hsz]; rfl
      have hr := run_copy_nil (P := P) w dT sT ty elem ⟨g, off, none⟩ dLen dCap hu hi
      refine upon_ok hr ?_
      simpa using hK'
    | some a' =>
      have hr := run_copy_row (P := P) w dT sT ty elem g off dLen dCap a' 0 0 cur.toArray t [] hu hsz hg (by simp) (fun j v hv => by simp at hv) (by simp; omega) (fun v hv => by simp at hv)
      refine upon_ok hr ?_
      simp only [List.append_nil, List.length_nil, Nat.add_zero, List.take_append_drop, Array.toArray_toList, hw]
      simpa using hK'
  · have hr := run_copy_row (P := P) w dT sT ty elem g off dLen dCap ⟨b, o', none⟩ n cap cur.toArray t (src.take (min n dLen)) hu hsz hg
      (by simp [hlen, Nat.min_def]; split <;> omega)
      (fun j v hv => by
        rw [addr_add]
        apply hseg
        rw [List.getElem?_take] at hv
        split at hv
        · exact hv
        · cases hv)
      (by simp [hlen]; omega) (fun v hv => h1 v (List.mem_of_mem_take hv))
    have hl2 : (src.take (min n dLen)).length = min n dLen := by simp [hlen]
    rw [hl2] at hr
    refine upon_ok hr (hK _ ?_ ?_ ?_ (by simp))
    · unfold Row
      rw [setRow_heap w g cur.toArray _ t _ hg]
      simp
    · intro k hk; exact setRow_other w g k _ hk
    · exact ⟨rfl, rfl, rfl, by simp, fun k hk => setRow_other w g k _ (by omega)⟩

theorem cell_new (w : World) (u : Value) (t : TypeId) : ∀ j x, [u][j]? = some x → (w.alloc (.cells #[u] t)).cell? ((⟨w.heap.size, 0, none⟩ : Addr).add j) = some x := by
  intro j x hx
  cases j with
  | zero =>
    simp at hx; subst hx
    rw [addr_add, cell_of_row _ w.heap.size 0 #[u] t (0, 0) (heap_alloc_new w _)]
    rfl
  | succ j => simp at hx
/-- 'x = append(x, u)': x a slice that the call itself grows, of elements of one cell -/
theorem upon_append1 {P : Program} {w : World} {o : Oper} {a : Act} {K : Act → World → Prop} {Q : Exit → Act → World → Prop} {t ty : TypeId} {u v : Value} {B n : Nat} {xs : List Value}
    (e : TypeId) (z : Value) (bytes : Nat) (h1 : P.underlying t = some (.slice e)) (h2 : (P.info? e).map (fun i => (i.zero, i.size, i.bytes)) = some (some z, 1, bytes)) (hz : z.cells = #[z])
    (hown : w.ownsRow B e 1 v n xs) (hB : B ≤ w.heap.size) (hu : u.oneCell' = true) (hm : n + 1 ≤ maxLen) (hby : (n + 1) * bytes ≤ 140737488355328)
    (hK : ∀ v' w', w'.ownsRow B e 1 v' (n + 1) (xs ++ [u]) → Below B w w' → (∀ k, k < w.heap.size → some k ≠ v.ownBlock → w'.heap[k]? = w.heap[k]?) → K (a.put o.dst v') w') :
    o.upon P a K Q ((Sem.run P (Builtin.append_ #[t, t] ty #[v, .slice (some ⟨w.heap.size, 0, none⟩) 1 1]) (w.alloc (.cells #[u] e))).andThen fun b w' => Result.ok (Next.value b) w') := by
  obtain ⟨i, hi, hz0, hz1, hz2⟩ := info_parts h2
  obtain ⟨v', w', hr, h3, h4, _⟩ := run_append_own (P := P) (w := w.alloc (.cells #[u] e)) B t ty e i z 1 bytes h1 hi hz0 hz1 hz2 (by rw [hz]; rfl) (by omega) v n xs (hown.alloc _)
    ⟨w.heap.size, 0, none⟩ 1 1 [u] rfl (cell_new w u e) (by intro x hx; simp at hx; subst hx; exact hu) hm hby (by simp; omega)
  have hlt := hown.lt
  refine upon_ok hr (hK _ _ h3 ?_ ?_)
  · refine (((Below.refl B w).alloc hB _).grown h4 (by simp; omega) ?_)
    intro k hk; exact (hlt k hk).1
  · intro k hk hne
    rw [h4.block k (by simp; omega) hne]
    exact heap_alloc_old w _ hk
theorem wpList_append1 {P : Program} {w : World} {ops : Array Oper} {rest : List Oper} {o : Oper} {a : Act} {Q : Exit → Act → World → Prop} {t : TypeId} {u v : Value} {B n : Nat} {xs : List Value}
    (hgd : o.guard = none) (s x : Operand) (ho : o.op = .call { callee := .builtin .append, args := #[s, x], argTypes := #[t, t] })
    (e : TypeId) (z : Value) (bytes : Nat) (h1 : P.underlying t = some (.slice e)) (h2 : (P.info? e).map (fun i => (i.zero, i.size, i.bytes)) = some (some z, 1, bytes)) (hz : z.cells = #[z])
    (hs : a.eval s = v) (hx : a.eval x = .slice (some ⟨w.heap.size, 0, none⟩) 1 1)
    (hown : w.ownsRow B e 1 v n xs) (hB : B ≤ w.heap.size) (hu : u.oneCell' = true) (hm : n + 1 ≤ maxLen) (hby : (n + 1) * bytes ≤ 140737488355328)
    (hK : ∀ v' w', w'.ownsRow B e 1 v' (n + 1) (xs ++ [u]) → Below B w w' → (∀ k, k < w.heap.size → some k ≠ v.ownBlock → w'.heap[k]? = w.heap[k]?) → wpList P ops Q rest (a.put o.dst v') w') :
    wpList P ops Q (o :: rest) a (w.alloc (.cells #[u] e)) := by
  refine wpList_plain hgd fun K hK' => ?_
  unfold Oper.wp execOp
  simp only [ho, resolve, invoke, builtin, Sem.run_bind, Sem.run_pure, Result.andThen_ok, List.map_toArray, List.map_cons, List.map_nil, hs, hx]
  exact upon_append1 e z bytes h1 h2 hz hown hB hu hm hby fun v' w' a b c => hK' _ _ (hK v' w' a b c)
/-- a store into the slice that the call itself grows -/
theorem owns_set {w : World} {B g cap n : Nat} {e : TypeId} {xs : List Value} (h : w.ownsRow B e 1 (.slice (some ⟨g, 0, none⟩) n cap) n xs) (j : Nat) (u : Value) :
    (w.setCell ⟨g, j, none⟩ u).ownsRow B e 1 (.slice (some ⟨g, 0, none⟩) n cap) n (xs.set j u) := (h.stored j u).1
theorem owns_form {w : World} {B : Nat} {e : TypeId} {v : Value} {n : Nat} {xs : List Value} (h : w.ownsRow B e 1 v n xs) : ∃ A cap, v = .slice A n cap ∧ n ≤ cap ∧ cap ≤ maxLen ∧ xs.length = n ∧
    (0 < n → ∃ g, A = some ⟨g, 0, none⟩ ∧ B ≤ g ∧ g < w.heap.size ∧ (∀ j, j < n → w.cell? ⟨g, j, none⟩ = xs[j]?) ∧ ∀ j, w.frozen? ⟨g, j, none⟩ = false) := by
  have hx : xs.length = n := by have := h.1; omega
  rcases h.2 with ⟨rfl, rfl⟩ | ⟨g, cap, cur, rfl, hb, hg, hnc, hcm, hcs, htake⟩
  · exact ⟨none, 0, rfl, Nat.le_refl _, Nat.zero_le _, hx, fun h => by omega⟩
  · exact ⟨_, cap, rfl, hnc, hcm, hx, fun _ => ⟨g, rfl, hb, (Array.getElem?_eq_some_iff.1 hg).1, fun j hj => h.cellAt j (by omega), fun j => h.frozenAt j⟩⟩
theorem owns_at {w : World} {B : Nat} {e : TypeId} {v : Value} {n : Nat} {ys : List Nat} (h : w.ownsRow B e 1 v n (u64s ys)) (i : Nat) (hi : i < n) : ∃ g cap, v = .slice (some ⟨g, 0, none⟩) n cap ∧ B ≤ g ∧ n ≤ cap ∧ cap ≤ maxLen ∧
    w.cell? ⟨g, i, none⟩ = some (.int .u64 ((ys.getD i 0 : Nat) : Int)) ∧ w.frozen? ⟨g, i, none⟩ = false ∧ ys.length = n := by
  obtain ⟨A, cap, rfl, hnc, hcm, hlen, hform⟩ := owns_form h
  obtain ⟨g, rfl, hBg, _, hc, hf⟩ := hform (by omega)
  have hl : ys.length = n := by rw [← hlen, u64s_length]
  exact ⟨g, cap, rfl, hBg, hnc, hcm, by rw [hc i hi]; exact u64s_get ys i (by omega), hf i, hl⟩
def lenOf : Value → Nat | .slice _ n _ => n | _ => 0

/-- A slice of integers that came in: what it reads as. -/
theorem open_ints_rd {H : Type} {enc : TypeId × Value → H} {P : Program} {w : World} {base : Nat} {held : Bool} {t e : TypeId} {k : IntKind} {a : Option Addr} {len cap : Nat} {x : DataW H × List MemPlace}
    (ht : P.underlying t = some (.slice e)) (he : P.underlying e = some (.int k)) (hc : P.cellsOf e = 1) (h : ∃ fuel, DataW.trod enc P w base (fun _ => true) held fuel t (Value.slice a len cap).cells.toList = some x) :
    ∃ zs : List Int, len = zs.length ∧ Rd w (.slice a len cap) zs.length 1 (zs.map (Value.int k)) ∧ (∀ n ∈ zs, (Lit.int k n).wf = true) ∧
      (zs = [] ∨ ∃ elems sp, x.1 = .slice elems sp ∧ elems.length = zs.length) := by
  obtain ⟨fuel, hf⟩ := h
  rcases Go.ChangeShapes.open_ints ht he hc hf with ⟨hcs, _⟩ | ⟨y, l, c, zs, hcs, _, hl, hm, hz, hx, hcell, hwz⟩
  · simp [Value.cells] at hcs
    obtain ⟨rfl, rfl, rfl⟩ := hcs
    exact ⟨[], rfl, ⟨rfl, .inl ⟨⟨_, rfl⟩, rfl⟩⟩, by simp, .inl rfl⟩
  · simp [Value.cells] at hcs
    obtain ⟨rfl, rfl, rfl⟩ := hcs
    simp only [if_true] at hz
    have hzl : len ≤ zs.length := by omega
    have hlen : (zs.take len).length = len := by rw [List.length_take]; omega
    refine ⟨zs.take len, hlen.symm, ?_, fun n hn => hwz n (List.mem_of_mem_take hn), .inr ⟨_, _, by rw [hx], by simp [Go.ChangeShapes.lits]⟩⟩
    rw [hlen]
    refine ⟨by simp; omega, ?_⟩
    by_cases hzc : zs.length = 0
    · have h0 : len = 0 := by omega
      have h1 : cap = 0 := by omega
      subst h0 h1
      exact .inl ⟨⟨_, rfl⟩, rfl⟩
    · have h0 := hcell 0 (by omega)
      have hsp : y.spot = none := by
        simp only [Addr.add, if_true, World.cell?] at h0
        split at h0
        · split at h0
          · cases h0
          · rename_i hs; simpa using hs
        · cases h0
      obtain ⟨b, o, s⟩ := y
      simp only at hsp
      subst hsp
      refine .inr ⟨b, o, cap, rfl, hl, hm, ?_⟩
      intro i v hv
      have hi : i < len := by
        rcases Nat.lt_or_ge i len with h | h
        · exact h
        · rw [List.getElem?_eq_none (by simp; omega)] at hv; cases hv
      have := hcell i (by omega)
      rw [addr_add] at this
      rw [this]
      rw [List.getElem?_map, List.getElem?_take, if_pos hi, List.getElem?_eq_getElem (by omega)] at hv
      simp only [Option.map_some, Option.some.injEq] at hv
      simp [List.getD, List.getElem?_eq_getElem (show i < zs.length by omega), hv]
end Go.Proofs.YtdlkdiaobbakiaaGreatDoor
