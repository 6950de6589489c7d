/- From the row's hypotheses to lists of words. -/
import Derived.Test.YtdlkdiaobbakiaaGreatDoorMem
set_option linter.unusedVariables false
set_option linter.unusedSimpArgs false
set_option linter.unnecessarySimpa false
namespace Go.Proofs.YtdlkdiaobbakiaaGreatDoor
open Go.RowKit

theorem wf_u64_nat {n : Int} (h : (Lit.int .u64 n).wf = true) : 0 ≤ n ∧ n < 18446744073709551616 := by
  simp [Lit.wf, IntKind.min, IntKind.max, IntKind.signed, IntKind.bits] at h; omega
theorem u64s_of (zs : List Int) (h : ∀ n ∈ zs, (Lit.int .u64 n).wf = true) : zs.map (Value.int .u64) = u64s (zs.map Int.toNat) ∧ ∀ x ∈ zs.map Int.toNat, x < 18446744073709551616 := by
  constructor
  · simp only [u64s, u64, List.map_map]
    apply List.map_congr_left
    intro n hn
    have := wf_u64_nat (h n hn)
    simp only [Function.comp]
    congr 1; omega
  · intro x hx
    obtain ⟨n, hn, rfl⟩ := List.mem_map.1 hx
    have := wf_u64_nat (h n hn); omega
/-- a slice of words that came in, as the walks want it -/
theorem open_words {H : Type} {enc : TypeId × Value → H} {P : Program} {w : World} {base : Nat} {held : Bool} {t e : TypeId} {a : Option Addr} {len cap : Nat} {x : DataW H × List MemPlace}
    (ht : P.underlying t = some (.slice e)) (he : P.underlying e = some (.int .u64)) (hc : P.cellsOf e = 1) (h : ∃ fuel, DataW.trod enc P w base (fun _ => true) held fuel t (Value.slice a len cap).cells.toList = some x) :
    ∃ xs : List Nat, Rd w (.slice a len cap) xs.length 1 (u64s xs) ∧ (∀ y ∈ xs, y < 18446744073709551616) ∧ (xs = [] ∨ ∃ elems sp, x.1 = .slice elems sp ∧ elems.length = xs.length) := by
  obtain ⟨zs, hl, hr, hw, hs⟩ := open_ints_rd ht he hc h
  obtain ⟨h1, h2⟩ := u64s_of zs hw
  refine ⟨zs.map Int.toNat, ?_, h2, ?_⟩
  · rw [h1] at hr; simpa using hr
  · simpa using hs
/-- its length, by the form's own reach: eight bytes a word -/
theorem words_reach {H : Type} {P : Program} {ts : List TypeId} {ds : List (DataW H)} (h : (DataW.weightsEach P ts ds).all (· ≤ reachBytes) = true) {j : Nat} {t e : TypeId} {d : DataW H} (ht : ts[j]? = some t) (hd : ds[j]? = some d) (hu : P.underlying t = some (.slice e))
    (hb : P.bytesOf e = 8) {xs : List Nat} (hs : xs = [] ∨ ∃ elems sp, d = .slice elems sp ∧ elems.length = xs.length) : xs.length ≤ 17592186044416 := by
  rcases hs with rfl | ⟨elems, sp, rfl, hl⟩
  · simp
  · have := sized_slice h ht hd hu
    have h2 := reachBytes_lt
    rw [hb] at this
    have h3 : elems.length * 8 ≤ (elems.length + sp.length) * 8 := Nat.mul_le_mul_right 8 (by omega)
    have h4 : (2 : Nat) ^ 47 = 140737488355328 := by decide
    omega
end Go.Proofs.YtdlkdiaobbakiaaGreatDoor
