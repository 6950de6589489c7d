/- From the row's hypotheses to lists of cells. -/
import Derived.Test.YtioaeijogjcghaaCel3
import Derived.Deep.Slices
import Derived.Deep.Fields
import Derived.Lib.SmallJoins
import Derived.OpenShut
set_option linter.unusedVariables false
set_option linter.unusedSimpArgs false
set_option linter.unnecessarySimpa false
namespace Go.Proofs.Ytioaeijogjcghaa
open Go.RowKit Go.Deep Go.ChangeShapes Go.WideShapes

/-- a slice of cells that came in, as the walks want it -/
theorem open_cells {H : Type} {enc : TypeId × Value → H} {P : Program} {w : World} {base : Nat} {held : Bool} {t e : TypeId} {f0 f1 f2 : Field} {a : Option Addr} {len cap : Nat} {x : DataW H × List MemPlace}
    (ht : P.underlying t = some (.slice e)) (he : P.underlying e = some (.struct #[f0, f1, f2])) (hone : oneCellFields P #[f0, f1, f2] = true) (hc : P.cellsOf e = 3)
    (t0 : P.underlying f0.type = some .bool) (t1 : P.underlying f1.type = some (.int .i64)) (t2 : P.underlying f2.type = some .string)
    (h : ∃ fuel, DataW.trod enc P w base (fun _ => true) held fuel t (Value.slice a len cap).cells.toList = some x) :
    ∃ cs : List C3, len = cs.length ∧ Rd w (.slice a len cap) cs.length 3 (cells3 cs) ∧ (∀ c ∈ cs, (Lit.int .i64 c.i).wf = true ∧ c.s.size ≤ maxLen) ∧ (cs = [] ∨ ∃ elems sp, x.1 = .slice elems sp ∧ elems.length = cs.length) := by
  obtain ⟨fuel, hf⟩ := h
  rcases Go.Deep.open_slice ht hf with ⟨hcs, _⟩ | ⟨y, l, c, m, n, D, Pl, hcs, _, hl, hm, hmm, hx, hel⟩
  · simp [Value.cells] at hcs
    obtain ⟨rfl, rfl, rfl⟩ := hcs
    exact ⟨[], rfl, ⟨rfl, .inl ⟨⟨_, rfl⟩, rfl⟩⟩, by simp, .inl rfl⟩
  · simp [Value.cells] at hcs
    obtain ⟨rfl, rfl, rfl⟩ := hcs
    simp only [if_true] at hmm
    subst hmm
    have each : ∀ i, i < m → ∃ q : C3, w.cell? (y.add (i * 3)) = some (.bool q.n) ∧ w.cell? (y.add (i * 3 + 1)) = some (.int .i64 q.i) ∧ w.cell? (y.add (i * 3 + 2)) = some (.string q.s) ∧ (Lit.int .i64 q.i).wf = true ∧ q.s.size ≤ maxLen := by
      intro i hi
      obtain ⟨cs', h1, h2⟩ := hel i (by omega)
      rw [hc] at h1
      obtain ⟨_, hlen, hcell⟩ := World.cells?_some h1
      obtain ⟨xs, k, hk, hxy, _, hxl, hf'⟩ := DataW.trod_struct he h2
      match xs, hxl, cs', hlen with
      | [y0, y1, y2], _, [v0, v1, v2], _ =>
        obtain ⟨o0, k0⟩ := hone_of hone 0 f0 rfl
        obtain ⟨o1, k1⟩ := hone_of hone 1 f1 rfl
        obtain ⟨o2, k2⟩ := hone_of hone 2 f2 rfl
        have g0 := hf' 0 f0 rfl
        have g1 := hf' 1 f1 rfl
        have g2 := hf' 2 f2 rfl
        simp [o0, o1, o2, k0, k1, k2] at g0 g1 g2
        have e0 := hcell 0 (by omega)
        have e1 := hcell 1 (by omega)
        have e2 := hcell 2 (by omega)
        rw [Go.Deep.add_add] at e0 e1 e2
        obtain ⟨b, hb, _⟩ := DataW.trod_bool t0 g0
        obtain ⟨j, hj, _, hw⟩ := DataW.trod_int t1 g1
        obtain ⟨s, hs, _, hsz⟩ := DataW.trod_string t2 g2
        simp at hb hj hs
        subst hb hj hs
        exact ⟨⟨b, j, s⟩, by simpa using e0, by simpa using e1, by simpa using e2, hw, hsz⟩
    obtain ⟨q, hq⟩ := @Go.Deep.choose_lt C3 ⟨C3.df⟩ m _ each
    have hql : ((List.range len).map q).length = len := by simp
    refine ⟨(List.range len).map q, hql.symm, ?_, ?_, .inr ⟨_, _, by rw [hx], by simp⟩⟩
    · rw [hql]
      refine ⟨by rw [cells3_length, hql], ?_⟩
      by_cases hzc : m = 0
      · have h0 : len = 0 := by omega
        subst h0 hzc
        exact .inl ⟨⟨_, rfl⟩, rfl⟩
      · have h0 := (hq 0 (by omega)).1
        have hsp : y.spot = none := by
          simp only [Addr.add, Nat.zero_mul, if_true, World.cell?] at h0
          split at h0
          · split at h0
            · cases h0
            · rename_i hs; simpa using hs
          · cases h0
        obtain ⟨b, o, s⟩ := y
        simp only at hsp
        subst hsp
        refine .inr ⟨b, o, m, rfl, hl, hm, ?_⟩
        intro i v hv
        have hi : i < len * 3 := by
          rcases Nat.lt_or_ge i (len * 3) with h | h
          · exact h
          · rw [List.getElem?_eq_none (by rw [cells3_length, hql]; exact h)] at hv; cases hv
        have hd : i / 3 < len := by omega
        obtain ⟨g0, g1, g2⟩ := cells3_get ((List.range len).map q) (i / 3) (by rw [hql]; exact hd)
        obtain ⟨e0, e1, e2, _, _⟩ := hq (i / 3) (by omega)
        have hgd : ((List.range len).map q).getD (i / 3) C3.df = q (i / 3) := by simp [List.getD, List.getElem?_range hd]
        rw [hgd] at g0 g1 g2
        rw [addr_add] at e0 e1 e2
        have h3 : i % 3 = 0 ∨ i % 3 = 1 ∨ i % 3 = 2 := by omega
        rcases h3 with h3 | h3 | h3
        · have hi3 : i = i / 3 * 3 := by omega
          rw [← hi3] at g0 e0; rw [e0, ← hv, g0]
        · have hi3 : i = i / 3 * 3 + 1 := by omega
          rw [← hi3] at g1 e1; rw [e1, ← hv, g1]
        · have hi3 : i = i / 3 * 3 + 2 := by omega
          rw [← hi3] at g2 e2; rw [e2, ← hv, g2]
    · intro c hc'
      obtain ⟨i, hi, rfl⟩ := List.mem_map.1 hc'
      exact (hq i (by have := List.mem_range.1 hi; omega)).2.2.2
/-- its length, by the form's own reach: 32 bytes a cell -/
theorem cells_reach {H : Type} {P : Program} {ts : List TypeId} {ds : List (DataW H)} (h : (DataW.weightsEach P ts ds).all (· ≤ reachBytes) = true) {j : Nat} {t e : TypeId} {d : DataW H} (ht : ts[j]? = some t) (hd : ds[j]? = some d) (hu : P.underlying t = some (.slice e))
    (hb : P.bytesOf e = 32) {cs : List C3} (hs : cs = [] ∨ ∃ elems sp, d = .slice elems sp ∧ elems.length = cs.length) : cs.length ≤ 4398046511104 := by
  rcases hs with rfl | ⟨elems, sp, rfl, hl⟩
  · simp
  · have := sized_slice h ht hd hu
    have h2 := reachBytes_lt
    rw [hb] at this
    have h3 : elems.length * 32 ≤ (elems.length + sp.length) * 32 := Nat.mul_le_mul_right 32 (by omega)
    have h4 : (2 : Nat) ^ 47 = 140737488355328 := by decide
    omega
/-- a cell that came in by value -/
theorem open_cell {H : Type} {enc : TypeId × Value → H} {P : Program} {w : World} {base b0 : Nat} {spare : Nat → Bool} {held : Bool} {r : Reach} {t : TypeId} {f0 f1 f2 : Field} {v : Value} {d : DataW H} {p : List MemPlace}
    (he : P.underlying t = some (.struct #[f0, f1, f2])) (hone : oneCellFields P #[f0, f1, f2] = true) (hc : P.cellsOf t = 3)
    (t0 : P.underlying f0.type = some .bool) (t1 : P.underlying f1.type = some (.int .i64)) (t2 : P.underlying f2.type = some .string)
    (hv : Value.okWide P w r b0 t v) (h : DataW.Trod enc P w base spare held t v d p) : ∃ c : C3, v = c.v := by
  obtain ⟨v0, v1, v2, y0, y1, y2, n, rfl, _, _, g0, g1, g2⟩ := Go.Joins.open_agg3 he hone hc hv h
  obtain ⟨b, hb, _⟩ := DataW.trod_bool t0 g0
  obtain ⟨j, hj, _, hw⟩ := DataW.trod_int t1 g1
  obtain ⟨s, hs, _, hsz⟩ := DataW.trod_string t2 g2
  simp at hb hj hs
  subst hb hj hs
  exact ⟨⟨b, j, s⟩, rfl⟩
end Go.Proofs.Ytioaeijogjcghaa
