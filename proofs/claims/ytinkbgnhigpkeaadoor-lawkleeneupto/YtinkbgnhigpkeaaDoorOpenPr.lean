/- From the row's hypotheses to pairs of lists of words. -/
import Derived.Test.YtinkbgnhigpkeaaDoorFrame
import Derived.Deep.Slices
import Derived.Deep.Fields
import Derived.OpenShut
set_option linter.unusedVariables false
set_option linter.unusedSimpArgs false
set_option linter.unnecessarySimpa false
namespace Go.Proofs.YtinkbgnhigpkeaaDoor
open Go.RowKit Go.Deep Go.ChangeShapes Go.WideShapes

/-- where the fields of a pair lie -/
def pairFields (P : Program) (f0 f1 : Field) : Bool := f0.offset == 0 && P.cellsOf f0.type == 1 && (f1.offset == 1 && P.cellsOf f1.type == 1)
theorem open_pair {H : Type} {enc : TypeId × Value → H} {P : Program} {w : World} {base b0 : Nat} {held : Bool} {r : Reach} {t e : TypeId} {f0 f1 : Field} {v : Value} {d : DataW H} {p : List MemPlace}
    (he : P.underlying t = some (.struct #[f0, f1])) (hpf : pairFields P f0 f1 = true) (hc2 : P.cellsOf t = 2)
    (t0 : P.underlying f0.type = some (.slice e)) (t1 : P.underlying f1.type = some (.slice e)) (hu : P.underlying e = some (.int .u64)) (hc : P.cellsOf e = 1)
    (hv : Value.okWide P w r b0 t v) (h : DataW.Trod enc P w base (fun _ => true) held t v d p) :
    ∃ (a0 a1 : Value) (xs ys : List Nat) (y0 y1 : DataW H), v = .agg #[a0, a1] ∧ d = .agg [y0, y1] ∧ Rd w a0 xs.length 1 (u64s xs) ∧ Rd w a1 ys.length 1 (u64s ys) ∧ (∀ y ∈ xs, y < 18446744073709551616) ∧ (∀ y ∈ ys, y < 18446744073709551616) ∧
      (xs = [] ∨ ∃ elems sp, y0 = .slice elems sp ∧ elems.length = xs.length) ∧ (ys = [] ∨ ∃ elems sp, y1 = .slice elems sp ∧ elems.length = ys.length) := by
  obtain ⟨cs, rfl, hsz⟩ := okWide_struct he hv
  obtain ⟨fuel, hf⟩ := h
  obtain ⟨xs, k, hk, hxy, _, hxl, hf'⟩ := DataW.trod_struct he hf
  have hl : cs.toList.length = 2 := by rw [Array.length_toList]; exact hsz.trans hc2
  simp only [pairFields, Bool.and_eq_true, beq_iff_eq] at hpf
  obtain ⟨⟨o0, k0⟩, o1, k1⟩ := hpf
  obtain ⟨cl⟩ := cs
  simp only at hl
  match xs, hxl, cl, hl with
  | [y0, y1], _, [v0, v1], _ =>
    have e0 := hf' 0 f0 rfl
    have e1 := hf' 1 f1 rfl
    simp [Value.cells, o0, o1, k0, k1] at e0 e1
    have s0 : ∃ A n c, v0 = .slice A n c := by
      rcases Go.Deep.open_slice t0 e0 with ⟨h, _⟩ | ⟨a, len, cap, _, _, _, _, h, _⟩
      · simp at h; exact ⟨_, _, _, h⟩
      · simp at h; exact ⟨_, _, _, h⟩
    have s1 : ∃ A n c, v1 = .slice A n c := by
      rcases Go.Deep.open_slice t1 e1 with ⟨h, _⟩ | ⟨a, len, cap, _, _, _, _, h, _⟩
      · simp at h; exact ⟨_, _, _, h⟩
      · simp at h; exact ⟨_, _, _, h⟩
    obtain ⟨A0, n0, c0, rfl⟩ := s0
    obtain ⟨A1, n1, c1, rfl⟩ := s1
    obtain ⟨x0, r0, w0, z0⟩ := open_words (enc := enc) (w := w) (base := base) (held := held) (a := A0) (len := n0) (cap := c0) t0 hu hc ⟨k, by simpa [Value.cells] using e0⟩
    obtain ⟨x1, r1, w1, z1⟩ := open_words (enc := enc) (w := w) (base := base) (held := held) (a := A1) (len := n1) (cap := c1) t1 hu hc ⟨k, by simpa [Value.cells] using e1⟩
    refine ⟨_, _, x0, x1, y0.1, y1.1, rfl, ?_, r0, r1, w0, w1, z0, z1⟩
    have := congrArg Prod.fst hxy
    simpa using this
end Go.Proofs.YtinkbgnhigpkeaaDoor
