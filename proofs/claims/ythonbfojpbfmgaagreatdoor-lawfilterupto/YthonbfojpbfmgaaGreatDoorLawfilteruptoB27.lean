/- From the row's hypotheses to a leaf: a node with its list of cells. -/
import Derived.Test.YthonbfojpbfmgaaGreatDoorLawfilteruptoB26
import Derived.Test.YthonbfojpbfmgaaGreatDoorLawfilteruptoB0
import Derived.Test.YthonbfojpbfmgaaGreatDoorLawfilteruptoB1
set_option linter.unusedVariables false
set_option linter.unusedSimpArgs false
set_option linter.unnecessarySimpa false
namespace Go.Proofs.YthonbfojpbfmgaaGreatDoor
open Go.RowKit Go.Deep Go.ChangeShapes Go.WideShapes

/-- where the fields of a node lie -/
def nodeFields (P : Program) (f0 f1 f2 : Field) : Bool := f0.offset == 0 && P.cellsOf f0.type == 1 && (f1.offset == 1 && P.cellsOf f1.type == 1) && (f2.offset == 2 && P.cellsOf f2.type == 1)
theorem open_node {H : Type} {enc : TypeId × Value → H} {P : Program} {w : World} {base b0 : Nat} {held : Bool} {r : Reach} {t e : TypeId} {f0 f1 f2 g0 g1 g2 : Field} {v : Value} {d : DataW H} {p : List MemPlace}
    (he : P.underlying t = some (.struct #[f0, f1, f2])) (hpf : nodeFields P f0 f1 f2 = true) (hc2 : P.cellsOf t = 3)
    (t0 : P.underlying f0.type = some (.int .i64)) (t1 : P.underlying f1.type = some (.int .i64)) (t2 : P.underlying f2.type = some (.slice e))
    (hce : P.underlying e = some (.struct #[g0, g1, g2])) (hone : oneCellFields P #[g0, g1, g2] = true) (hc : P.cellsOf e = 3)
    (u0 : P.underlying g0.type = some .bool) (u1 : P.underlying g1.type = some (.int .i64)) (u2 : P.underlying g2.type = some .string)
    (hv : Value.okWide P w r b0 t v) (h : DataW.Trod enc P w base (fun _ => true) held t v d p) :
    ∃ (op col : Int) (av : Value) (cs : List C3) (y2 : DataW H), v = .agg #[.int .i64 op, .int .i64 col, av] ∧ d = .agg [.lit (.int .i64 op), .lit (.int .i64 col), y2] ∧ Rd w av cs.length 3 (cells3 cs) ∧
      (∀ c ∈ cs, (Lit.int .i64 c.i).wf = true ∧ c.s.size ≤ maxLen) ∧ (cs = [] ∨ ∃ sp, y2 = .slice (cs.map litC) sp) := by
  obtain ⟨cs, rfl, hsz⟩ := okWide_struct he hv
  obtain ⟨fuel, hf⟩ := h
  obtain ⟨xs, k, hk, hxy, _, hxl, hf'⟩ := DataW.trod_struct he hf
  have hl : cs.toList.length = 3 := by rw [Array.length_toList]; exact hsz.trans hc2
  simp only [nodeFields, Bool.and_eq_true, beq_iff_eq] at hpf
  obtain ⟨⟨⟨o0, k0⟩, o1, k1⟩, o2, k2⟩ := hpf
  obtain ⟨cl⟩ := cs
  simp only at hl
  match xs, hxl, cl, hl with
  | [y0, y1, y2], _, [v0, v1, v2], _ =>
    have e0 := hf' 0 f0 rfl
    have e1 := hf' 1 f1 rfl
    have e2 := hf' 2 f2 rfl
    simp [Value.cells, o0, o1, o2, k0, k1, k2] at e0 e1 e2
    obtain ⟨i0, h0, hy0, _⟩ := DataW.trod_int t0 e0
    obtain ⟨i1, h1, hy1, _⟩ := DataW.trod_int t1 e1
    have s2 : ∃ A n c, v2 = .slice A n c := by
      rcases Go.Deep.open_slice t2 e2 with ⟨h, _⟩ | ⟨a, len, cap, _, _, _, _, h, _⟩
      · simp at h; exact ⟨_, _, _, h⟩
      · simp at h; exact ⟨_, _, _, h⟩
    obtain ⟨A, n, c, rfl⟩ := s2
    simp at h0 h1
    subst h0 h1
    obtain ⟨q, hn, hr, hw, hz⟩ := open_cells (enc := enc) (w := w) (base := base) (held := held) (a := A) (len := n) (cap := c) t2 hce hone hc u0 u1 u2 ⟨k, by simpa [Value.cells] using e2⟩
    refine ⟨i0, i1, _, q, y2.1, rfl, ?_, hr, hw, hz⟩
    have h9 := congrArg Prod.fst hxy
    simp only [hy0, hy1] at h9
    simpa using h9
end Go.Proofs.YthonbfojpbfmgaaGreatDoor

/- From the row's hypotheses to lists of words. -/
set_option maxRecDepth 512
set_option linter.unusedVariables false
set_option linter.unusedSimpArgs false
set_option linter.unnecessarySimpa false
namespace Go.Proofs.YthonbfojpbfmgaaGreatDoor
open Go.RowKit

end Go.Proofs.YthonbfojpbfmgaaGreatDoor

/- From the row's hypotheses to lists of bytes. -/
set_option maxRecDepth 512
set_option linter.unusedVariables false
set_option linter.unusedSimpArgs false
set_option linter.unnecessarySimpa false
namespace Go.Proofs.YthonbfojpbfmgaaGreatDoor
open Go.RowKit

theorem wf_u8_nat {n : Int} (h : (Lit.int .u8 n).wf = true) : 0 ≤ n ∧ n < 256 := by
  simp [Lit.wf, IntKind.min, IntKind.max, IntKind.signed, IntKind.bits] at h; omega
theorem u8s_of (zs : List Int) (h : ∀ n ∈ zs, (Lit.int .u8 n).wf = true) : zs.map (Value.int .u8) = u8s (zs.map Int.toNat) ∧ ∀ x ∈ zs.map Int.toNat, x < 256 := by
  constructor
  · simp only [u8s, u8, List.map_map]
    apply List.map_congr_left
    intro n hn
    have := wf_u8_nat (h n hn)
    simp only [Function.comp]
    congr 1; omega
  · intro x hx
    obtain ⟨n, hn, rfl⟩ := List.mem_map.1 hx
    have := wf_u8_nat (h n hn); omega
/-- a slice of bytes that came in, as the walks want it -/
theorem open_bytes {H : Type} {enc : TypeId × Value → H} {P : Program} {w : World} {base : Nat} {held : Bool} {t e : TypeId} {a : Option Addr} {len cap : Nat} {x : DataW H × List MemPlace}
    (ht : P.underlying t = some (.slice e)) (he : P.underlying e = some (.int .u8)) (hc : P.cellsOf e = 1) (h : ∃ fuel, DataW.trod enc P w base (fun _ => true) held fuel t (Value.slice a len cap).cells.toList = some x) :
    ∃ xs : List Nat, Rd w (.slice a len cap) xs.length 1 (u8s xs) ∧ (∀ y ∈ xs, y < 256) ∧ (xs = [] ∨ ∃ elems sp, x.1 = .slice elems sp ∧ elems.length = xs.length) := by
  obtain ⟨zs, hl, hr, hw, hs⟩ := open_ints_rd ht he hc h
  obtain ⟨h1, h2⟩ := u8s_of zs hw
  refine ⟨zs.map Int.toNat, ?_, h2, ?_⟩
  · rw [h1] at hr; simpa using hr
  · simpa using hs
end Go.Proofs.YthonbfojpbfmgaaGreatDoor
