/- From the row's hypotheses to queries. -/
import Derived.Test.YtioaeijogjcghaaQry
import Derived.Test.YtioaeijogjcghaaOpenC
import Derived.Deep.Slices
import Derived.Deep.Fields
import Derived.Lib.SmallJoins
import Derived.OpenShut
set_option linter.unusedVariables false
set_option linter.unusedSimpArgs false
set_option linter.unnecessarySimpa false
namespace Go.Proofs.Ytioaeijogjcghaa
open Go.RowKit Go.Deep Go.ChangeShapes Go.WideShapes

theorem spot_of {w : World} {y : Addr} {v : Value} (h0 : w.cell? (y.add 0) = some v) : ∃ b o, y = ⟨b, o, none⟩ := by
  have hsp : y.spot = none := by
    simp only [Addr.add, if_true, World.cell?] at h0
    split at h0
    · split at h0
      · cases h0
      · rename_i hs; simpa using hs
    · cases h0
  obtain ⟨b, o, s⟩ := y
  simp only at hsp
  subst hsp
  exact ⟨b, o, rfl⟩
/-- where the fields of a node lie -/
def nodeFields (P : Program) (f0 f1 f2 : Field) : Bool := f0.offset == 0 && P.cellsOf f0.type == 1 && (f1.offset == 1 && P.cellsOf f1.type == 1) && (f2.offset == 2 && P.cellsOf f2.type == 1)
theorem open_nodes {H : Type} {enc : TypeId × Value → H} {P : Program} {w : World} {base : Nat} {held : Bool} {t e ce : TypeId} {f0 f1 f2 g0 g1 g2 : Field} {a : Option Addr} {len cap : Nat} {x : DataW H × List MemPlace}
    (ht : P.underlying t = some (.slice e)) (he : P.underlying e = some (.struct #[f0, f1, f2])) (hnf : nodeFields P f0 f1 f2 = true) (hc : P.cellsOf e = 3)
    (t0 : P.underlying f0.type = some (.int .i64)) (t1 : P.underlying f1.type = some (.int .i64)) (t2 : P.underlying f2.type = some (.slice ce))
    (hce : P.underlying ce = some (.struct #[g0, g1, g2])) (hone : oneCellFields P #[g0, g1, g2] = true) (hcc : P.cellsOf ce = 3)
    (u0 : P.underlying g0.type = some .bool) (u1 : P.underlying g1.type = some (.int .i64)) (u2 : P.underlying g2.type = some .string)
    (h : ∃ fuel, DataW.trod enc P w base (fun _ => true) held fuel t (Value.slice a len cap).cells.toList = some x) :
    ∃ L : List Nd, len = L.length ∧ NsIn w (.slice a len cap) L ∧ (L = [] ∨ ∃ (D : Nat → DataW H) (sp : List (DataW H)), x.1 = .slice ((List.range L.length).map D) sp ∧ ∀ i, i < L.length → ∃ d0 d1 z, D i = .agg [d0, d1, z] ∧ ((L.getD i Nd.df).args = [] ∨ ∃ elems sp, z = .slice elems sp ∧ elems.length = (L.getD i Nd.df).args.length)) := by
  obtain ⟨fuel, hf⟩ := h
  simp only [nodeFields, Bool.and_eq_true, beq_iff_eq] at hnf
  obtain ⟨⟨⟨o0, k0⟩, o1, k1⟩, o2, k2⟩ := hnf
  rcases Go.Deep.open_slice ht hf with ⟨hcs, _⟩ | ⟨y, l, c, m, n, D, Pl, hcs, _, hl, hm, hmm, hx, hel⟩
  · simp [Value.cells] at hcs
    obtain ⟨rfl, rfl, rfl⟩ := hcs
    exact ⟨[], rfl, ⟨none, 0, rfl, Nat.le_refl _, Nat.zero_le _, fun k hk => by simp at hk⟩, .inl rfl⟩
  · simp [Value.cells] at hcs
    obtain ⟨rfl, rfl, rfl⟩ := hcs
    simp only [if_true] at hmm
    subst hmm
    have each : ∀ i, i < m → ∃ q : Nd, ∃ av, w.cell? (y.add (i * 3)) = some (.int .i64 q.op) ∧ w.cell? (y.add (i * 3 + 1)) = some (.int .i64 q.col) ∧ w.cell? (y.add (i * 3 + 2)) = some av ∧ Rd w av q.args.length 3 (cells3 q.args) ∧
        ∃ d0 d1 z, D i = .agg [d0, d1, z] ∧ (q.args = [] ∨ ∃ elems sp, z = .slice elems sp ∧ elems.length = q.args.length) := by
      intro i hi
      obtain ⟨cs', h1, h2⟩ := hel i (by omega)
      rw [hc] at h1
      obtain ⟨_, hlen, hcell⟩ := World.cells?_some h1
      obtain ⟨xs, k, hk, hxy, _, hxl, hf'⟩ := DataW.trod_struct he h2
      match xs, hxl, cs', hlen with
      | [y0, y1, y2], _, [v0, v1, v2], _ =>
        have e0 := hf' 0 f0 rfl
        have e1 := hf' 1 f1 rfl
        have e2 := hf' 2 f2 rfl
        simp [o0, o1, o2, k0, k1, k2] at e0 e1 e2
        have c0 := hcell 0 (by omega)
        have c1 := hcell 1 (by omega)
        have c2 := hcell 2 (by omega)
        rw [Go.Deep.add_add] at c0 c1 c2
        obtain ⟨j0, hj0, _, _⟩ := DataW.trod_int t0 e0
        obtain ⟨j1, hj1, _, _⟩ := DataW.trod_int t1 e1
        simp at hj0 hj1
        subst hj0 hj1
        have s2 : ∃ A n c, v2 = .slice A n c := by
          rcases Go.Deep.open_slice t2 e2 with ⟨h, _⟩ | ⟨a, len, cap, _, _, _, _, h, _⟩
          · simp at h; exact ⟨_, _, _, h⟩
          · simp at h; exact ⟨_, _, _, h⟩
        obtain ⟨A2, n2, c2', rfl⟩ := s2
        obtain ⟨cs, hcl, rd, _, sh⟩ := open_cells (enc := enc) (w := w) (base := base) (held := held) (a := A2) (len := n2) (cap := c2') t2 hce hone hcc u0 u1 u2 ⟨k, by simpa [Value.cells] using e2⟩
        refine ⟨⟨j0, j1, cs⟩, _, by simpa using c0, by simpa using c1, by simpa using c2, rd, y0.1, y1.1, y2.1, ?_, sh⟩
        have := congrArg Prod.fst hxy
        simpa using this
    obtain ⟨q, hq⟩ := @Go.Deep.choose_lt Nd ⟨Nd.df⟩ m _ each
    have hql : ((List.range len).map q).length = len := by simp
    have hgd : ∀ i, i < len → ((List.range len).map q).getD i Nd.df = q i := fun i hi => by simp [List.getD, List.getElem?_range hi]
    refine ⟨(List.range len).map q, hql.symm, ⟨some y, m, by rw [hql], by rw [hql]; exact hl, hm, fun k hk => ?_⟩, .inr ⟨D, (List.range (m - len)).map fun j => D (len + j), ?_, fun i hi => ?_⟩⟩
    · rw [hql] at hk
      obtain ⟨av, e0, e1, e2, hr, _⟩ := hq k (by omega)
      obtain ⟨av0, e00, _⟩ := hq 0 (by omega)
      rw [Nat.zero_mul] at e00
      obtain ⟨b, o, rfl⟩ := spot_of e00
      rw [addr_add] at e0 e1 e2
      rw [hgd k hk]
      exact ⟨b, o, av, rfl, e0, e1, e2, hr⟩
    · rw [hx, hql]
    · rw [hql] at hi
      obtain ⟨av, _, _, _, _, d0, d1, z, h1, h2⟩ := hq i (by omega)
      rw [hgd i hi]
      exact ⟨d0, d1, z, h1, h2⟩
def aggFields (P : Program) (f0 f1 : Field) : Bool := f0.offset == 0 && P.cellsOf f0.type == 1 && (f1.offset == 1 && P.cellsOf f1.type == 1)
theorem open_aggs {H : Type} {enc : TypeId × Value → H} {P : Program} {w : World} {base : Nat} {held : Bool} {t e : TypeId} {f0 f1 : Field} {a : Option Addr} {len cap : Nat} {x : DataW H × List MemPlace}
    (ht : P.underlying t = some (.slice e)) (he : P.underlying e = some (.struct #[f0, f1])) (hnf : aggFields P f0 f1 = true) (hc : P.cellsOf e = 2)
    (t0 : P.underlying f0.type = some (.int .i64)) (t1 : P.underlying f1.type = some (.int .i64))
    (h : ∃ fuel, DataW.trod enc P w base (fun _ => true) held fuel t (Value.slice a len cap).cells.toList = some x) :
    ∃ L : List Ag, len = L.length ∧ Rd w (.slice a len cap) L.length 2 (ags L) ∧ (L = [] ∨ ∃ elems sp, x.1 = .slice elems sp ∧ elems.length = L.length) := by
  obtain ⟨fuel, hf⟩ := h
  simp only [aggFields, Bool.and_eq_true, beq_iff_eq] at hnf
  obtain ⟨⟨o0, k0⟩, o1, k1⟩ := hnf
  rcases Go.Deep.open_slice ht hf with ⟨hcs, _⟩ | ⟨y, l, c, m, n, D, Pl, hcs, _, hl, hm, hmm, hx, hel⟩
  · simp [Value.cells] at hcs
    obtain ⟨rfl, rfl, rfl⟩ := hcs
    exact ⟨[], rfl, ⟨rfl, .inl ⟨⟨_, rfl⟩, rfl⟩⟩, .inl rfl⟩
  · simp [Value.cells] at hcs
    obtain ⟨rfl, rfl, rfl⟩ := hcs
    simp only [if_true] at hmm
    subst hmm
    have each : ∀ i, i < m → ∃ q : Ag, w.cell? (y.add (i * 2)) = some (.int .i64 q.fn) ∧ w.cell? (y.add (i * 2 + 1)) = some (.int .i64 q.col) := by
      intro i hi
      obtain ⟨cs', h1, h2⟩ := hel i (by omega)
      rw [hc] at h1
      obtain ⟨_, hlen, hcell⟩ := World.cells?_some h1
      obtain ⟨xs, k, hk, hxy, _, hxl, hf'⟩ := DataW.trod_struct he h2
      match xs, hxl, cs', hlen with
      | [y0, y1], _, [v0, v1], _ =>
        have e0 := hf' 0 f0 rfl
        have e1 := hf' 1 f1 rfl
        simp [o0, o1, k0, k1] at e0 e1
        have c0 := hcell 0 (by omega)
        have c1 := hcell 1 (by omega)
        rw [Go.Deep.add_add] at c0 c1
        obtain ⟨j0, hj0, _, _⟩ := DataW.trod_int t0 e0
        obtain ⟨j1, hj1, _, _⟩ := DataW.trod_int t1 e1
        simp at hj0 hj1
        subst hj0 hj1
        exact ⟨⟨j0, j1⟩, by simpa using c0, by simpa using c1⟩
    obtain ⟨q, hq⟩ := @Go.Deep.choose_lt Ag ⟨Ag.df⟩ m _ each
    have hql : ((List.range len).map q).length = len := by simp
    refine ⟨(List.range len).map q, hql.symm, ?_, .inr ⟨_, _, by rw [hx], by simp⟩⟩
    rw [hql]
    refine ⟨by rw [ags_length, hql], ?_⟩
    by_cases hzc : m = 0
    · have h0 : len = 0 := by omega
      subst h0 hzc
      exact .inl ⟨⟨_, rfl⟩, rfl⟩
    · have h0 := (hq 0 (by omega)).1
      rw [Nat.zero_mul] at h0
      obtain ⟨b, o, rfl⟩ := spot_of h0
      refine .inr ⟨b, o, m, rfl, hl, hm, ?_⟩
      intro i v hv
      have hi : i < len * 2 := by
        rcases Nat.lt_or_ge i (len * 2) with h | h
        · exact h
        · rw [List.getElem?_eq_none (by rw [ags_length, hql]; exact h)] at hv; cases hv
      have hd : i / 2 < len := by omega
      obtain ⟨g0, g1⟩ := ags_get ((List.range len).map q) (i / 2) (by rw [hql]; exact hd)
      obtain ⟨e0, e1⟩ := hq (i / 2) (by omega)
      have hgd : ((List.range len).map q).getD (i / 2) Ag.df = q (i / 2) := by simp [List.getD, List.getElem?_range hd]
      rw [hgd] at g0 g1
      rw [addr_add] at e0 e1
      have h3 : i % 2 = 0 ∨ i % 2 = 1 := by omega
      rcases h3 with h3 | h3
      · have hi3 : i = i / 2 * 2 := by omega
        rw [← hi3] at g0 e0; rw [e0, ← hv, g0]
      · have hi3 : i = i / 2 * 2 + 1 := by omega
        rw [← hi3] at g1 e1; rw [e1, ← hv, g1]
end Go.Proofs.Ytioaeijogjcghaa
