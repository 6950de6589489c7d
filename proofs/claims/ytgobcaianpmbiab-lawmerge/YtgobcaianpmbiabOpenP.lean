/- From the row's hypotheses to Parts. -/
import Derived.Test.YtgobcaianpmbiabMrg
import Derived.Deep.Fields
import Derived.Lib.SmallJoins
import Derived.OpenShut
set_option linter.unusedVariables false
set_option linter.unusedSimpArgs false
set_option linter.unnecessarySimpa false
namespace Go.Proofs.Ytgobcaianpmbiab
open Go.RowKit Go.Deep Go.ChangeShapes Go.WideShapes

theorem u64_wf {n : Int} (h : (Lit.int .u64 n).wf = true) : 0 ≤ n ∧ n < 18446744073709551616 := by
  simp [Lit.wf, IntKind.min, IntKind.max, IntKind.signed, IntKind.bits] at h; omega
theorem i64_wf {n : Int} (h : (Lit.int .i64 n).wf = true) : -9223372036854775808 ≤ n ∧ n < 9223372036854775808 := by
  simp [Lit.wf, IntKind.min, IntKind.max, IntKind.signed, IntKind.bits] at h; omega
/-- a cell in a row of three -/
theorem open_c3 {H : Type} {enc : TypeId × Value → H} {P : Program} {w : World} {base : Nat} {spare : Nat → Bool} {held : Bool} {t : TypeId} {f0 f1 f2 : Field} {n : Nat} {cs : List Value} {x : DataW H × List MemPlace}
    (he : P.underlying t = some (.struct #[f0, f1, f2])) (hone : oneCellFields P #[f0, f1, f2] = true)
    (t0 : P.underlying f0.type = some .bool) (t1 : P.underlying f1.type = some (.int .i64)) (t2 : P.underlying f2.type = some .string) (hl : cs.length = 3)
    (h : DataW.trod enc P w base spare held n t cs = some x) : ∃ c : C3, cs = c.vs := by
  obtain ⟨xs, k, hk, hxy, _, hxl, hf'⟩ := DataW.trod_struct he h
  match xs, hxl, cs, hl with
  | [y0, y1, y2], _, [v0, v1, v2], _ =>
    obtain ⟨o0, k0⟩ := hone_of hone 0 f0 rfl
    obtain ⟨o1, k1⟩ := hone_of hone 1 f1 rfl
    obtain ⟨o2, k2⟩ := hone_of hone 2 f2 rfl
    have g0 := hf' 0 f0 rfl
    have g1 := hf' 1 f1 rfl
    have g2 := hf' 2 f2 rfl
    simp [o0, o1, o2, k0, k1, k2] at g0 g1 g2
    obtain ⟨b, hb, _⟩ := DataW.trod_bool t0 g0
    obtain ⟨j, hj, _, hw⟩ := DataW.trod_int t1 g1
    obtain ⟨s, hs, _, hsz⟩ := DataW.trod_string t2 g2
    simp at hb hj hs
    subst hb hj hs
    exact ⟨⟨b, j, s⟩, rfl⟩
/-- where the fields of a Part lie -/
def partFields (P : Program) (f0 f1 f2 f3 f4 : Field) : Bool :=
  f0.offset == 0 && P.cellsOf f0.type == 1 && (f1.offset == 1 && P.cellsOf f1.type == 1) && (f2.offset == 2 && P.cellsOf f2.type == 1) && (f3.offset == 3 && P.cellsOf f3.type == 3) && (f4.offset == 6 && P.cellsOf f4.type == 3)
theorem open_part {H : Type} {enc : TypeId × Value → H} {P : Program} {w : World} {base b0 : Nat} {spare : Nat → Bool} {held : Bool} {r : Reach} {t : TypeId} {f0 f1 f2 f3 f4 g0 g1 g2 : Field} {v : Value} {d : DataW H} {p : List MemPlace}
    (he : P.underlying t = some (.struct #[f0, f1, f2, f3, f4])) (hpf : partFields P f0 f1 f2 f3 f4 = true) (hc : P.cellsOf t = 9)
    (t0 : P.underlying f0.type = some (.int .i64)) (t1 : P.underlying f1.type = some (.int .i64)) (t2 : P.underlying f2.type = some (.int .u64))
    (t3 : P.underlying f3.type = some (.struct #[g0, g1, g2])) (t4 : P.underlying f4.type = some (.struct #[g0, g1, g2])) (hone : oneCellFields P #[g0, g1, g2] = true)
    (u0 : P.underlying g0.type = some .bool) (u1 : P.underlying g1.type = some (.int .i64)) (u2 : P.underlying g2.type = some .string)
    (hv : Value.okWide P w r b0 t v) (h : DataW.Trod enc P w base spare held t v d p) : ∃ q : P9, v = q.v ∧ q.lo < 18446744073709551616 ∧ (-9223372036854775808 ≤ q.hi ∧ q.hi < 9223372036854775808) := by
  obtain ⟨cs, rfl, hsz⟩ := okWide_struct he hv
  obtain ⟨fuel, hf⟩ := h
  obtain ⟨xs, k, hk, hxy, _, hxl, hf'⟩ := DataW.trod_struct he hf
  have hl : cs.toList.length = 9 := by rw [Array.length_toList]; exact hsz.trans hc
  simp only [partFields, Bool.and_eq_true, beq_iff_eq] at hpf
  obtain ⟨⟨⟨⟨⟨o0, k0⟩, o1, k1⟩, o2, k2⟩, o3, k3⟩, o4, k4⟩ := hpf
  obtain ⟨cl⟩ := cs
  simp only at hl
  match xs, hxl, cl, hl with
  | [y0, y1, y2, y3, y4], _, [v0, v1, v2, v3, v4, v5, v6, v7, v8], _ =>
    have e0 := hf' 0 f0 rfl
    have e1 := hf' 1 f1 rfl
    have e2 := hf' 2 f2 rfl
    have e3 := hf' 3 f3 rfl
    have e4 := hf' 4 f4 rfl
    simp [Value.cells, o0, o1, o2, o3, o4, k0, k1, k2, k3, k4] at e0 e1 e2 e3 e4
    obtain ⟨j0, h0, _, w0⟩ := DataW.trod_int t0 e0
    obtain ⟨j1, h1, _, w1⟩ := DataW.trod_int t1 e1
    obtain ⟨j2, h2, _, w2⟩ := DataW.trod_int t2 e2
    obtain ⟨c3, h3⟩ := open_c3 t3 hone u0 u1 u2 rfl e3
    obtain ⟨c4, h4⟩ := open_c3 t4 hone u0 u1 u2 rfl e4
    simp [C3.vs] at h0 h1 h2 h3 h4
    obtain ⟨rfl, rfl, rfl⟩ := h3
    obtain ⟨rfl, rfl, rfl⟩ := h4
    subst h0 h1 h2
    have hw2 := u64_wf w2
    refine ⟨⟨j0, j1, j2.toNat, c3, c4⟩, ?_, by show j2.toNat < _; omega, i64_wf w1⟩
    show Value.agg _ = Value.agg _
    simp only
    rw [show ((j2.toNat : Nat) : Int) = j2 by omega]
end Go.Proofs.Ytgobcaianpmbiab
