/- The law's own helpers over queries: cutQuery, layQuery. -/
import Derived.Test.YtioaeijogjcghaaLno2
set_option linter.unusedVariables false
set_option linter.unusedSimpArgs false
set_option linter.unnecessarySimpa false
set_option maxRecDepth 20000
namespace Go.Proofs.Ytioaeijogjcghaa
open Go.RowKit

theorem rows3e {w : World} {X Y Z : Array Value} {eX eY eZ : TypeId} {w3 : World} (e : w3 = ((w.alloc (.cells X eX)).alloc (.cells Y eY)).alloc (.cells Z eZ)) :
    Row w3 w.heap.size eX X.toList ∧ Row w3 (w.heap.size + 1) eY Y.toList ∧ Row w3 (w.heap.size + 1 + 1) eZ Z.toList ∧ Below w.heap.size w w3 := by
  subst e
  have nw : ∀ (u : World) (D : Array Value) (e : TypeId), Row (u.alloc (.cells D e)) u.heap.size e D.toList := fun u D e => by unfold Row; rw [heap_alloc_new]
  have al : ∀ (u : World) (o : Obj), Below u.heap.size u (u.alloc o) := fun u o => (Below.refl _ _).alloc (Nat.le_refl _) _
  have s1 : (w.alloc (.cells X eX)).heap.size = w.heap.size + 1 := by simp
  have s2 : ((w.alloc (.cells X eX)).alloc (.cells Y eY)).heap.size = w.heap.size + 1 + 1 := by simp
  have r2 := nw (w.alloc (.cells X eX)) Y eY
  have r3 := nw ((w.alloc (.cells X eX)).alloc (.cells Y eY)) Z eZ
  rw [s1] at r2
  rw [s2] at r3
  exact ⟨((nw w X eX).mono (al _ _)).mono (al _ _), r2.mono (al _ _), r3, Below.then' (Below.then' (al _ _) (al _ _) (by simp)) (al _ _) (by simp; omega)⟩
theorem rows2e {w : World} {X Y : Array Value} {eX eY : TypeId} {w3 : World} (e : w3 = (w.alloc (.cells X eX)).alloc (.cells Y eY)) :
    Row w3 w.heap.size eX X.toList ∧ Row w3 (w.heap.size + 1) eY Y.toList ∧ Below w.heap.size w w3 := by
  subst e
  have nw : ∀ (u : World) (D : Array Value) (e : TypeId), Row (u.alloc (.cells D e)) u.heap.size e D.toList := fun u D e => by unfold Row; rw [heap_alloc_new]
  have al : ∀ (u : World) (o : Obj), Below u.heap.size u (u.alloc o) := fun u o => (Below.refl _ _).alloc (Nat.le_refl _) _
  have s1 : (w.alloc (.cells X eX)).heap.size = w.heap.size + 1 := by simp
  have r2 := nw (w.alloc (.cells X eX)) Y eY
  rw [s1] at r2
  exact ⟨(nw w X eX).mono (al _ _), r2, Below.then' (al _ _) (al _ _) (by simp)⟩
set_option maxHeartbeats 8000000 in
theorem cutQuery_any (g1 g2 g3 N1 N2 N3 C1 C2 C3 n1 n2 n3 d1 d2 d3 : Nat) (P1 P2 P3 : Option Addr) (w : World) (h1 : n1 ≤ C1) (h2 : n2 ≤ C2) (h3 : n3 ≤ C3) :
    Calls Try.prog 8 #[.agg #[.slice (some ⟨g1, 0, none⟩) N1 C1, .slice (some ⟨g2, 0, none⟩) N2 C2, .slice (some ⟨g3, 0, none⟩) N3 C3], .agg #[.slice P1 n1 d1, .slice P2 n2 d2, .slice P3 n3 d3]] w fun e w' =>
      e = .returned (.agg #[.slice (some ⟨g1, 0, none⟩) n1 C1, .slice (some ⟨g2, 0, none⟩) n2 C2, .slice (some ⟨g3, 0, none⟩) n3 C3]) ∧ Below w.heap.size w w' := by
  go_enter Try.func8, Try.ntmps8
  go_upto_region 1 with fail
  obtain ⟨ra, rb, rz, hbw⟩ := rows3e (w := w) (X := #[.slice (some ⟨g1, 0, none⟩) N1 C1, .slice (some ⟨g2, 0, none⟩) N2 C2, .slice (some ⟨g3, 0, none⟩) N3 C3]) (Y := #[.slice P1 n1 d1, .slice P2 n2 d2, .slice P3 n3 d3]) (Z := #[.slice none 0 0, .slice none 0 0, .slice none 0 0]) (eX := 26) (eY := 26) (eZ := 26) rfl
  have HRA := hid ra; have HRB := hid rb; have HRZ := hid rz; have HBW := hid hbw
  clear ra rb rz hbw
  generalize ((w.alloc (.cells #[.slice (some ⟨g1, 0, none⟩) N1 C1, .slice (some ⟨g2, 0, none⟩) N2 C2, .slice (some ⟨g3, 0, none⟩) N3 C3] 26)).alloc (.cells #[.slice P1 n1 d1, .slice P2 n2 d2, .slice P3 n3 d3] 26)).alloc (.cells #[.slice none 0 0, .slice none 0 0, .slice none 0 0] 26) = w0 at *
  obtain ⟨a0, a1, a2⟩ := cell3 HRA.out
  obtain ⟨b0, b1, b2⟩ := cell3 HRB.out
  obtain ⟨z0, z1, z2⟩ := cell3 HRZ.out
  have f0 := HRZ.out.frozen 0
  have f1 := HRZ.out.frozen 1
  have f2 := HRZ.out.frozen 2
  have i1 : (n1 : Int) ≤ (C1 : Int) := by omega
  have i2 : (n2 : Int) ≤ (C2 : Int) := by omega
  have i3 : (n3 : Int) ≤ (C3 : Int) := by omega
  go_region
  have hz := ((HRZ.out.set 0 (.slice (some ⟨g1, 0, none⟩) n1 C1)).set 1 (.slice (some ⟨g2, 0, none⟩) n2 C2)).set 2 (.slice (some ⟨g3, 0, none⟩) n3 C3)
  obtain ⟨y0, y1, y2⟩ := cell3 hz
  go_wp2_with fail
  refine bodyPost_ret (v := .agg #[.slice (some ⟨g1, 0, none⟩) n1 C1, .slice (some ⟨g2, 0, none⟩) n2 C2, .slice (some ⟨g3, 0, none⟩) n3 C3]) ?_ rfl ⟨rfl, bdrew (below_set (below_set (below_set HBW.out _ _ _ (by omega)) _ _ _ (by omega)) _ _ _ (by omega)) 1⟩
  simp [results, Try.results8, go_sem, *]
end Go.Proofs.Ytioaeijogjcghaa
