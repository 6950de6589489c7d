/- From the row's hypotheses to lists of bytes. -/
import Derived.Test.YtdlkdiaobbakiaaGreatDoorFrame
import Derived.Test.YtdlkdiaobbakiaaGreatDoorWire
set_option linter.unusedVariables false
set_option linter.unusedSimpArgs false
set_option linter.unnecessarySimpa false
namespace Go.Proofs.YtdlkdiaobbakiaaGreatDoor
open Go.RowKit

theorem wf_u8_nat {n : Int} (h : (Lit.int .u8 n).wf = true) : 0 ≤ n ∧ n < 256 := by
  simp [Lit.wf, IntKind.min, IntKind.max, IntKind.signed, IntKind.bits] at h; omega
theorem u8s_of (zs : List Int) (h : ∀ n ∈ zs, (Lit.int .u8 n).wf = true) : zs.map (Value.int .u8) = u8s (zs.map Int.toNat) ∧ ∀ x ∈ zs.map Int.toNat, x < 256 := by
  constructor
  · simp only [u8s, u8, List.map_map]
    apply List.map_congr_left
    intro n hn
    have := wf_u8_nat (h n hn)
    simp only [Function.comp]
    congr 1; omega
  · intro x hx
    obtain ⟨n, hn, rfl⟩ := List.mem_map.1 hx
    have := wf_u8_nat (h n hn); omega
/-- a slice of bytes that came in, as the walks want it -/
theorem open_bytes {H : Type} {enc : TypeId × Value → H} {P : Program} {w : World} {base : Nat} {held : Bool} {t e : TypeId} {a : Option Addr} {len cap : Nat} {x : DataW H × List MemPlace}
    (ht : P.underlying t = some (.slice e)) (he : P.underlying e = some (.int .u8)) (hc : P.cellsOf e = 1) (h : ∃ fuel, DataW.trod enc P w base (fun _ => true) held fuel t (Value.slice a len cap).cells.toList = some x) :
    ∃ xs : List Nat, Rd w (.slice a len cap) xs.length 1 (u8s xs) ∧ (∀ y ∈ xs, y < 256) ∧ (xs = [] ∨ ∃ elems sp, x.1 = .slice elems sp ∧ elems.length = xs.length) := by
  obtain ⟨zs, hl, hr, hw, hs⟩ := open_ints_rd ht he hc h
  obtain ⟨h1, h2⟩ := u8s_of zs hw
  refine ⟨zs.map Int.toNat, ?_, h2, ?_⟩
  · rw [h1] at hr; simpa using hr
  · simpa using hs
end Go.Proofs.YtdlkdiaobbakiaaGreatDoor
