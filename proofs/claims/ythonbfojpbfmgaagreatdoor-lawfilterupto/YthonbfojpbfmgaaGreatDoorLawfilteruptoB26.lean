/- The laws' own helpers over cells: layCells, sameCells. -/
import Derived.Test.YthonbfojpbfmgaaGreatDoorLawfilteruptoB15
import Derived.Test.YthonbfojpbfmgaaGreatDoorLawfilteruptoB1
import Derived.Deep.QuietTactic
import Derived.Test.YthonbfojpbfmgaaGreatDoorLawfilteruptoB14
import Derived.Test.YthonbfojpbfmgaaGreatDoorLawfilteruptoB25
import Derived.Test.YthonbfojpbfmgaaGreatDoorLawfilteruptoB12
import Derived.Deep.Slices
import Derived.Deep.Fields
import Derived.Lib.SmallJoins
import Derived.OpenShut
set_option linter.unusedVariables false
set_option linter.unusedSimpArgs false
set_option linter.unnecessarySimpa false
set_option maxRecDepth 20000
namespace Go.Proofs.YthonbfojpbfmgaaGreatDoor
open Go.RowKit

theorem run_copy_rowS {P : Program} (w : World) (dT sT ty elem : TypeId) (g o dLen dCap sz : Nat) (a : Addr) (sLen sCap : Nat) (cur : Array Value) (t : TypeId) (cs : List Value)
    (hu : P.underlying dT = some (.slice elem)) (hs : (P.info? elem).map (·.size) = some sz)
    (hg : w.heap[g]? = some (.cells cur t (0, 0))) (hn : cs.length = Nat.min sLen dLen * sz)
    (hsrc : ∀ j v, cs[j]? = some v → w.cell? (a.add j) = some v) (hfit : o + cs.length ≤ cur.size) (h1 : ∀ v ∈ cs, v.oneCell' = true) :
    (Builtin.copy_ #[dT, sT] ty #[.slice (some ⟨g, o, none⟩) dLen dCap, .slice (some a) sLen sCap]).run P w =
      .ok (goInt (Nat.min sLen dLen : Nat)) (w.setRow g (cur.toList.take o ++ cs ++ cur.toList.drop (o + cs.length)).toArray) := by
  have hl := run_loadCells_list (P := P) w a cs hsrc
  have hst := run_storeCells_at g o t cs 0 cur w hg (by simpa using hfit) h1 (P := P)
  cases hq : P.info? elem with
  | none => simp [hq] at hs
  | some i =>
    have hi : i.size = sz := by simpa [hq] using hs
    simp [Builtin.copy_, run_underlying hu, Builtin.lenOf, Builtin.firstCells, sizeOf, typeInfo, hq, hi, ← hn, hl, hst]
/-- 'copy(row, src)', a row of the call's own that is long enough, an element of sz cells -/
theorem upon_copyS {P : Program} {w : World} {o : Oper} {a : Act} {K : Act → World → Prop} {Q : Exit → Act → World → Prop} {dT sT ty : TypeId}
    (elem : TypeId) (sz : Nat) (hu : P.underlying dT = some (.slice elem)) (hsz : (P.info? elem).map (·.size) = some sz)
    {g dLen dCap : Nat} {v : Value} {t : TypeId} {cur src : List Value} {n : Nat} (hg : Row w g t cur) (hs : Rd w v n sz src) (h1 : ∀ v ∈ src, v.oneCell' = true) (hnd : n ≤ dLen) (hfit : n * sz ≤ cur.length)
    (hK : ∀ w', Row w' g t (src ++ cur.drop (n * sz)) → (∀ k, k ≠ g → w'.heap[k]? = w.heap[k]?) → Below g w w' → w'.heap.size = w.heap.size → K (a.put o.dst (goInt (n : Nat))) w') :
    o.upon P a K Q ((Sem.run P (Builtin.copy_ #[dT, sT] ty #[.slice (some ⟨g, 0, none⟩) dLen dCap, v]) w).andThen fun b w' => Result.ok (Next.value b) w') := by
  have hmin : Nat.min n dLen = n := Nat.min_eq_left hnd
  rcases hs.2 with ⟨⟨A, rfl⟩, rfl⟩ | ⟨b, o', cap, rfl, h2, h3, hseg⟩
  · have : src = [] := List.eq_nil_of_length_eq_zero (by have := hs.1; omega)
    subst this
    have hK' := hK w (by simpa using hg) (fun _ _ => rfl) (Below.refl _ _) rfl
    have hw : w.setRow g cur.toArray = w := setRow_self w g cur.toArray t (0, 0) hg
    cases A with
    | none =>
      have hi : ((P.info? elem).map (·.size)).isSome = true := by rw [hsz]; rfl
      have hr := run_copy_nil (P := P) w dT sT ty elem ⟨g, 0, none⟩ dLen dCap hu hi
      exact upon_ok hr hK'
    | some a' =>
      have hr := run_copy_rowS (P := P) w dT sT ty elem g 0 dLen dCap sz a' 0 0 cur.toArray t [] hu hsz hg (by simp) (fun j v hv => by simp at hv) (by simp) (fun v hv => by simp at hv)
      refine upon_ok hr ?_
      simp only [List.append_nil, List.length_nil, Nat.add_zero, List.take_append_drop, Array.toArray_toList, hw, hmin]
      exact hK'
  · have hlen := hs.1
    have hr := run_copy_rowS (P := P) w dT sT ty elem g 0 dLen dCap sz ⟨b, o', none⟩ n cap cur.toArray t src hu hsz hg (by rw [hmin]; exact hlen)
      (fun j v hv => by rw [addr_add]; exact hseg j v hv) (by simp; omega) h1
    rw [hmin] at hr
    refine upon_ok hr (hK _ ?_ ?_ ?_ (by simp))
    · unfold Row
      rw [setRow_heap w g cur.toArray _ t _ hg]
      simp [hlen]
    · intro k hk; exact setRow_other w g k _ hk
    · exact ⟨rfl, rfl, rfl, by simp, fun k hk => setRow_other w g k _ (by omega)⟩
/-- 'make([]T, n)' for an element of sz cells -/
theorem upon_makeS {P : Program} {w : World} {o : Oper} {a : Act} {K : Act → World → Prop} {Q : Exit → Act → World → Prop} {t : TypeId} {kl kc : IntKind} {L C : Int}
    (e : TypeId) (zs : List Value) (sz bytes : Nat) (h1 : P.underlying t = some (.slice e)) (h2 : (P.info? e).map (fun i => (i.zero, i.size, i.bytes)) = some (some (.agg zs.toArray), sz, bytes)) (hz : zs.length = sz)
    (n : Nat) (hL : L = (n : Int)) (hC : C = (n : Int)) (b2 : bytes * n ≤ 281474976710656) (b3 : n ≤ maxLen)
    (hK : ∀ w' cs, cs.length = n * sz → Row w' w.heap.size e cs → Below w.heap.size w w' → w'.heap.size = w.heap.size + 1 → K (a.put o.dst (.slice (some ⟨w.heap.size, 0, none⟩) n n)) w') :
    o.upon P a K Q ((Sem.run P (Instr.makeSlice t (.int kl L) (.int kc C)) w).andThen fun b w' => Result.ok (Next.value b) w') := by
  obtain ⟨i, hi, hz0, hz1, hz2⟩ := info_parts h2
  subst hL
  subst hC
  have hb : (i.bytes : Int) * (n : Int) ≤ 281474976710656 := by
    have h : ((i.bytes * n : Nat) : Int) ≤ 281474976710656 := by rw [hz2]; omega
    rwa [Int.natCast_mul] at h
  have h63 : (n : Int) ≤ 9223372036854775807 := by unfold maxLen at b3; omega
  have hr := run_make (P := P) w t e i _ h1 hi hz0 kl kc n n (by omega) (Int.le_refl _) hb h63
  simp only [Int.toNat_natCast, hz1] at hr
  refine upon_ok hr (hK _ (madeCells (Value.agg zs.toArray).cells (n * sz)).toList (by rw [Array.length_toList, size_madeCells]) ?_ ((Below.refl _ _).alloc (Nat.le_refl _) _) (by simp))
  unfold Row
  rw [heap_alloc_new]
theorem Tryz.infoC3 : (Tryz.prog.info? 42).map (fun i => (i.zero, i.size, i.bytes)) = some (some (.agg [.bool false, .int .i64 0, .string ByteArray.empty].toArray), 3, 32) := by kernel_rfl
def tailC (m : Nat) : List C3 := (List.range m).map fun j : Nat => ⟨true, 131 + (j : Int), ByteArray.empty⟩
theorem tailC_succ (j : Nat) : tailC (j + 1) = tailC j ++ [⟨true, 131 + (j : Int), ByteArray.empty⟩] := by simp [tailC, List.range_succ]
theorem tailC_length (m : Nat) : (tailC m).length = m := by simp [tailC]
theorem three (cs : List Value) (h : 3 ≤ cs.length) : ∃ x y z r, cs = x :: y :: z :: r := by
  match cs, h with
  | x :: y :: z :: r, _ => exact ⟨x, y, z, r, rfl⟩
theorem set3 (pre r : List Value) (x y z a b c : Value) (o : Nat) (ho : pre.length = o) : (((pre ++ x :: y :: z :: r).set o a).set (o + 1) b).set (o + 2) c = (pre ++ [a, b, c]) ++ r := by
  subst ho
  simp [List.set_append_right, List.set_append]
set_option maxHeartbeats 2000000 in
theorem layCells_any (v : Value) (cs : List C3) (r : Int) (w : World) (hx : Rd w v cs.length 3 (cells3 cs)) (hl : cs.length ≤ 4398046511104) :
    Calls Tryz.prog 8 #[v, .int .i64 r] w fun e w' =>
      e = .returned (.slice (some ⟨w.heap.size, 0, none⟩) (cs.length + clipN r) (cs.length + clipN r)) ∧ Row w' w.heap.size 42 (cells3 (cs ++ tailC (clipN r))) ∧ Below w.heap.size w w' ∧ w'.heap.size = w.heap.size + 1 := by
  have hc := clipN_le r
  generalize hcr : clipN r = m at *
  have HC := hcr; clear hcr
  have HX : Hid (Rd w v cs.length 3 (cells3 cs)) := hx
  obtain ⟨A, cap, rfl, _, _, _⟩ := hx.form
  clear hx
  obtain ⟨n, hn⟩ : ∃ n, cs.length = n := ⟨_, rfl⟩
  have HN := hid hn
  rw [hn] at hl HX ⊢
  clear hn
  go_enter Tryz.func8, Tryz.ntmps8
  go_wp2_with (go_at_call 26; refine (clip_any _ _).mono ?_; rintro e w' ⟨rfl, rfl⟩)
  refine upon_makeS 42 [.bool false, .int .i64 0, .string ByteArray.empty] 3 32 Tryz.underlying23 Tryz.infoC3 rfl (n + m) (by omega) (by omega) (by omega) (by unfold maxLen; omega) ?_
  intro w1 zs hzs hrow hb1 hsz1
  have HZ : Hid (w1.heap.size = w'.heap.size + 1) := hsz1
  have HZS := hid hzs
  clear hsz1 hzs
  go_wp2
  refine upon_copyS 42 3 Tryz.underlying23 (by kernel_rfl) hrow (HX.out.mono hb1) (oneCell_cells3 cs) (by omega) (by rw [HZS.out]; omega) ?_
  intro w2 hrow2 _ hb2 hsz2
  have hb3 : Hid (Below w'.heap.size w' w2) := hid (hb1.trans hb2)
  have HZ2 : Hid (w2.heap.size = w'.heap.size + 1) := by rw [hsz2]; exact HZ.out
  have HL : Hid ((zs.drop (n * 3)).length = m * 3) := hid (by rw [List.length_drop, HZS.out]; omega)
  generalize zs.drop (n * 3) = ys at *
  have HROW := hid hrow2
  clear hsz2 hb2 hrow hb1 HZ hrow2 HZS
  go_wp2
  go_loopw [6] (fun i wr => ∃ (j : Nat) (rs : List Value), j ≤ m ∧ i = .int .i64 (n + j : Nat) ∧ Hid (rs.length = (m - j) * 3) ∧ Hid (Row wr w'.heap.size 42 (cells3 (cs ++ tailC j) ++ rs)) ∧ Hid (Below w'.heap.size w' wr) ∧ Hid (wr.heap.size = w'.heap.size + 1))
      (fun i _ => n + m - (intOf i).toNat)
  case atStart => exact ⟨0, ys, by omega, rfl, HL, hid (by simpa [tailC] using HROW.out), hb3, HZ2⟩
  case round =>
    obtain ⟨j, rs, hj, rfl, hrs, hr, hb, hz⟩ := hrel
    clear HROW hb3 HZ2
    by_cases hlt : j < m
    · obtain ⟨x, y, z, r2, rfl⟩ := three rs (by rw [hrs.out]; omega)
      have hpl : (cells3 (cs ++ tailC j)).length = (n + j) * 3 := by rw [cells3_length, List.length_append, HN.out, tailC_length]
      have HRR := hid hr.out
      have c0 : wr.cell? ⟨w'.heap.size, (n + j) * 3, none⟩ = some x := by rw [hr.out.cell, List.getElem?_append_right (by omega), hpl]; simp
      have c1 : wr.cell? ⟨w'.heap.size, (n + j) * 3 + 1, none⟩ = some y := by rw [hr.out.cell, List.getElem?_append_right (by omega), hpl]; simp
      have c2 : wr.cell? ⟨w'.heap.size, (n + j) * 3 + 2, none⟩ = some z := by rw [hr.out.cell, List.getElem?_append_right (by omega), hpl]; simp
      have f0 := hr.out.frozen ((n + j) * 3)
      have f1 := hr.out.frozen ((n + j) * 3 + 1)
      have f2 := hr.out.frozen ((n + j) * 3 + 2)
      have HR3 : Hid (Row (((wr.setCell ⟨w'.heap.size, (n + j) * 3, none⟩ (.bool true)).setCell ⟨w'.heap.size, (n + j) * 3 + 1, none⟩ (.int .i64 (131 + (j : Int)))).setCell ⟨w'.heap.size, (n + j) * 3 + 2, none⟩ (.string ByteArray.empty)) w'.heap.size 42 (cells3 (cs ++ tailC (j + 1)) ++ r2)) := by
        have hs := ((hr.out.set ((n + j) * 3) (.bool true)).set ((n + j) * 3 + 1) (.int .i64 (131 + (j : Int)))).set ((n + j) * 3 + 2) (.string ByteArray.empty)
        rw [set3 _ _ _ _ _ _ _ _ _ hpl] at hs
        rw [tailC_succ, ← List.append_assoc, cells3_snoc]
        exact hid hs
      have HRS : Hid (r2.length = (m - (j + 1)) * 3) := hid (by have := hrs.out; simp at this; omega)
      clear hr hpl hrs HRR
      go_wp2
      rw [show (131 : Int) + ((n : Int) + (j : Int)) - (n : Int) = 131 + (j : Int) by omega]
      go_roundw
      case rel =>
        refine ⟨j + 1, r2, by omega, by go_num, HRS, HR3, hid (below_set (below_set (below_set hb.out _ _ _ (Nat.le_refl _)) _ _ _ (Nat.le_refl _)) _ _ _ (Nat.le_refl _)), hid (by rw [← hz.out]; simp [World.setCell])⟩
      case measure => simp [intOf]; omega
    · obtain rfl : j = m := by omega
      have e0 : rs = [] := List.eq_nil_of_length_eq_zero (by rw [hrs.out]; omega)
      subst e0
      rw [HN.out] at *
      go_wp2
      go_ret
      exact ⟨rfl, by simpa using hr.out, hb.out, hz.out⟩
set_option maxHeartbeats 1000000 in
theorem sameCells3 (x y : Value) (cs : List C3) (w : World) (hx : Rd w x cs.length 3 (cells3 cs)) (hy : Rd w y cs.length 3 (cells3 cs)) (hn : cs.length ≤ 9223372036854775807) :
    Calls Tryz.prog 13 #[x, y] w fun e w' => e = .returned (.bool true) ∧ ∃ m, w' = w.drewN m := by
  obtain ⟨A1, ca, rfl, hlc, hcm, hA⟩ := hx.form
  obtain ⟨B1, cb, rfl, hlc2, hcm2, hB⟩ := hy.form
  clear hx hy
  obtain ⟨n, hn'⟩ : ∃ n, cs.length = n := ⟨_, rfl⟩
  have HN := hid hn'
  rw [hn'] at hlc hlc2 hA hB hn ⊢
  clear hn'
  have e1 : ((n : Int) != (n : Int)) = false := by simp
  go_enter Tryz.func13, Tryz.ntmps13
  go_wp2
  go_loopw [13] (fun i wr => (∃ k : Nat, k ≤ n ∧ i = .int .i64 k) ∧ ∃ m, wr = w.drewN m) (fun i _ => n - (intOf i).toNat)
  case atStart => exact ⟨⟨0, by omega, rfl⟩, 0, rfl⟩
  case round =>
    obtain ⟨⟨k, hk, rfl⟩, m, rfl⟩ := hrel
    by_cases hlt : k < n
    · have hkl : k < cs.length := by rw [HN.out]; exact hlt
      obtain ⟨b, o, rfl, hs⟩ := hA (by omega)
      obtain ⟨b', o', rfl, hs'⟩ := hB (by omega)
      obtain ⟨c0, c1, c2⟩ := hs.c3 k hkl
      obtain ⟨d0, d1, d2⟩ := hs'.c3 k hkl
      clear hA hB hs hs' hkl
      generalize cs.getD k C3.df = c at *
      obtain ⟨xa, xb, xc⟩ := c
      simp only at c0 c1 c2 d0 d1 d2
      go_wp2
      go_quiet (fail)
      go_wp2
      go_roundw
      case rel => exact ⟨⟨k + 1, by omega, by go_num⟩, _, rfl⟩
      case measure => simp [intOf]; omega
    · go_wp2
      go_ret
      exact ⟨rfl, m, rfl⟩
end Go.Proofs.YthonbfojpbfmgaaGreatDoor

/- The law's own test that lists of words share no memory. -/
set_option linter.unusedVariables false
set_option linter.unusedSimpArgs false
set_option linter.unnecessarySimpa false
set_option maxRecDepth 20000
namespace Go.Proofs.YthonbfojpbfmgaaGreatDoor
open Go.RowKit

theorem Tryz.infoWs : (Tryz.prog.info? 28).map (fun i => (i.zero, i.size, i.bytes)) = some (some (.slice none 0 0), 1, 24) := by kernel_rfl
/-- behind i of the lists: those lists and the lengthened ones bear their numbers, the others stand, and no two lie in one block -/
structure OwS (B s : Nat) (v : Value) (L : List Value) (N : Nat → Nat) (X : Nat → List Value) (w0 : World) (i : Nat) (vl : Value) (ls : List Value) (w : World) : Prop where
  rdv : Rd w v L.length 1 L
  lon : w.ownsRow w0.heap.size 28 1 vl i ls
  mine : ∀ j, i ≤ j → j < L.length → w.ownsRow B 40 1 (L.getD j undef) (N j) (X j)
  done : ∀ j, j < i → Rd w (L.getD j undef) (N j) 1 (marked j (N j)) ∧ Rd w (ls.getD j undef) (N j + s) 1 (marked j (N j + s))
  apart : ∀ j, j < i → ∀ k, (L.getD j undef).ownBlock = some k ∨ (ls.getD j undef).ownBlock = some k → k < w.heap.size ∧ vl.ownBlock ≠ some k ∧ ∀ j', i ≤ j' → j' < L.length → (L.getD j' undef).ownBlock ≠ some k
  bel : Below B w0 w
  size : w0.heap.size ≤ w.heap.size
theorem getD_snoc_lt (ls : List Value) (x : Value) (j : Nat) (h : j < ls.length) : (ls ++ [x]).getD j undef = ls.getD j undef := by simp [List.getD, List.getElem?_append_left h]
theorem getD_snoc_eq (ls : List Value) (x : Value) (j : Nat) (h : j = ls.length) : (ls ++ [x]).getD j undef = x := by subst h; simp [List.getD]
theorem OwS.step {B s : Nat} {v : Value} {L : List Value} {N : Nat → Nat} {X : Nat → List Value} {w0 wa wc w' : World} {t u cd cd7 : Nat} {D D7 : Option Addr} {vl vl' : Value} {ls : List Value}
    (h : OwS B s v L N X w0 t vl ls wa) (ht : t < L.length) (hLt : L.getD t undef = .slice D u cd) (hm : N t = u) (hsz : wa.heap.size ≤ wc.heap.size)
    (hel : ∀ k, k < wa.heap.size → (Value.slice D u cd).ownBlock ≠ some k → wc.heap[k]? = wa.heap[k]?)
    (hrd : Rd wc (.slice D u cd) u 1 (marked t u)) (ho7 : wc.ownsRow B 40 1 (.slice D7 (u + s) cd7) (u + s) (marked t (u + s)))
    (hw7 : ∀ k, (Value.slice D7 (u + s) cd7).ownBlock = some k → (Value.slice D u cd).ownBlock = some k ∨ wa.heap.size ≤ k)
    (hlon : w'.ownsRow w0.heap.size 28 1 vl' (t + 1) (ls ++ [.slice D7 (u + s) cd7])) (hsz' : wc.heap.size ≤ w'.heap.size)
    (hk' : ∀ k, k < wc.heap.size → some k ≠ vl.ownBlock → w'.heap[k]? = wc.heap[k]?)
    (hw' : vl'.ownBlock = vl.ownBlock ∨ ((∀ k, vl'.ownBlock = some k → wc.heap.size ≤ k) ∧ ∀ k, k < wc.heap.size → w'.heap[k]? = wc.heap[k]?)) (hbel : Below B w0 w')
    (hLT : ∀ j, j < L.length → ∀ k, (L.getD j undef).ownBlock = some k → k < w0.heap.size) (hSEP : ∀ i j, i < j → j < L.length → ∀ k, (L.getD i undef).ownBlock = some k → (L.getD j undef).ownBlock ≠ some k)
    (hV : ∀ k, v.ownBlock = some k → ∀ j, j < L.length → (L.getD j undef).ownBlock ≠ some k) (hvlt : ∀ k, v.ownBlock = some k → k < w0.heap.size) :
    OwS B s v L N X w0 (t + 1) vl' (ls ++ [.slice D7 (u + s) cd7]) w' := by
  have h0 := h.size
  have hll : ls.length = t := by have := h.lon.1; omega
  have hvl : ∀ k, vl.ownBlock = some k → w0.heap.size ≤ k ∧ k < wa.heap.size := h.lon.lt
  have hvl' : ∀ k, vl'.ownBlock = some k → w0.heap.size ≤ k ∧ k < w'.heap.size := hlon.lt
  have key : ∀ k, k < wa.heap.size → (Value.slice D u cd).ownBlock ≠ some k → vl.ownBlock ≠ some k → w'.heap[k]? = wa.heap[k]? := fun k h1 h2 h3 =>
    (hk' k (Nat.lt_of_lt_of_le h1 hsz) (fun e => h3 e.symm)).trans (hel k h1 h2)
  have hLtk : ∀ k, (Value.slice D u cd).ownBlock = some k → k < w0.heap.size := fun k hk => hLT t ht k (by rw [hLt]; exact hk)
  have hold : ∀ k, k < w0.heap.size → vl.ownBlock ≠ some k := fun k hk e => by have := (hvl k e).1; omega
  have hold' : ∀ k, k < w0.heap.size → vl'.ownBlock ≠ some k := fun k hk e => by have := (hvl' k e).1; omega
  have hin' : ∀ k, k < wc.heap.size → vl.ownBlock ≠ some k → vl'.ownBlock ≠ some k := fun k hk hne e => by
    rcases hw' with h' | ⟨h', _⟩
    · exact hne (h'.symm.trans e)
    · have := h' k e; omega
  refine ⟨?_, hlon, ?_, ?_, ?_, hbel, by omega⟩
  · refine h.rdv.keep fun k hk => ?_
    have hkl := hvlt k hk
    exact key k (by omega) (fun e => hV k hk t ht (by rw [hLt]; exact e)) (hold k hkl)
  · intro j hj hjl
    refine owns_keep (h.mine j (by omega) hjl) fun k hk => ?_
    have hkl := hLT j hjl k hk
    exact key k (by omega) (fun e => hSEP t j (by omega) hjl k (by rw [hLt]; exact e) hk) (hold k hkl)
  · intro j hj
    by_cases hjt : j < t
    · obtain ⟨d1, d2⟩ := h.done j hjt
      have ap := h.apart j hjt
      rw [getD_snoc_lt _ _ _ (by omega)]
      constructor
      · refine d1.keep fun k hk => ?_
        obtain ⟨p1, p2, p3⟩ := ap k (.inl hk)
        exact key k p1 (by rw [← hLt]; exact p3 t (Nat.le_refl _) ht) p2
      · refine d2.keep fun k hk => ?_
        obtain ⟨p1, p2, p3⟩ := ap k (.inr hk)
        exact key k p1 (by rw [← hLt]; exact p3 t (Nat.le_refl _) ht) p2
    · obtain rfl : j = t := by omega
      rw [getD_snoc_eq _ _ _ hll.symm, hLt, hm]
      constructor
      · refine hrd.keep fun k hk => ?_
        have hkl := hLtk k hk
        exact hk' k (by omega) (fun e => hold k hkl e.symm)
      · refine (owns_rd ho7).keep fun k hk => ?_
        have hk2 := (ho7.lt k hk).2
        refine hk' k hk2 fun e => ?_
        rcases hw7 k hk with h1 | h1
        · exact hold k (hLtk k h1) e.symm
        · have := (hvl k e.symm).2; omega
  · intro j hj k hk
    by_cases hjt : j < t
    · rw [getD_snoc_lt _ _ _ (by omega)] at hk
      obtain ⟨p1, p2, p3⟩ := h.apart j hjt k hk
      exact ⟨by omega, hin' k (by omega) p2, fun j' h1 h2 => p3 j' (by omega) h2⟩
    · obtain rfl : j = t := by omega
      rw [getD_snoc_eq _ _ _ hll.symm, hLt] at hk
      have hcase : (Value.slice D u cd).ownBlock = some k ∨ (wa.heap.size ≤ k ∧ k < wc.heap.size) := by
        rcases hk with hk | hk
        · exact .inl hk
        · rcases hw7 k hk with h1 | h1
          · exact .inl h1
          · exact .inr ⟨h1, (ho7.lt k hk).2⟩
      rcases hcase with h1 | ⟨h1, h2⟩
      · have hkl := hLtk k h1
        exact ⟨by omega, hold' k hkl, fun j' hj' hl' => hSEP j j' (by omega) hl' k (by rw [hLt]; exact h1)⟩
      · refine ⟨by omega, hin' k h2 (fun e => by have := (hvl k e).2; omega), fun j' hj' hl' e => ?_⟩
        have := hLT j' hl' k e
        omega
theorem mk_walk (i : Nat) (hi : i ≤ 1048576) : bits BinOp.xor IntKind.u64 IntKind.u64.max (501 + (i : Int)) = ((18446744073709551615 - (501 + i) : Nat) : Int) := not_u64 _ (501 + i) (by omega) (by omega)
set_option maxHeartbeats 4000000 in
theorem ownWords_any (B : Nat) (v : Value) (L : List Value) (N : Nat → Nat) (X : Nat → List Value) (r : Int) (w : World) (hx : Rd w v L.length 1 L) (hB : B ≤ w.heap.size) (hnL : L.length ≤ 1048576) (hN : ∀ j, N j ≤ 1099511627776)
    (hown : ∀ j, j < L.length → w.ownsRow B 40 1 (L.getD j undef) (N j) (X j))
    (hsep : ∀ i j, i < j → j < L.length → ∀ k, (L.getD i undef).ownBlock = some k → (L.getD j undef).ownBlock ≠ some k)
    (hv : ∀ k, v.ownBlock = some k → ∀ j, j < L.length → (L.getD j undef).ownBlock ≠ some k) :
    Calls Tryz.prog 14 #[v, .int .i64 r] w fun e w' => e = .returned (.bool true) ∧ Below B w w' := by
  obtain ⟨s, hs⟩ : ∃ s, shareN r L.length = s := ⟨_, rfl⟩
  have hs2 : s ≤ 1024 := by rw [← hs]; exact shareN_le _ _
  have HSH : Hid (∀ w2 : World, Calls Tryz.prog 35 #[.int .i64 r, .int .i64 (L.length : Int)] w2 fun e w' => e = .returned (.int .i64 (s : Nat)) ∧ ∃ m, w' = w2.drewN m) := hid (fun w2 => by have := share_any r L.length w2 hnL; rw [hs] at this; exact this)
  have hvlt : Hid (0 < L.length → ∀ k, v.ownBlock = some k → k < w.heap.size) := hid (fun h0 k hk => by
    obtain ⟨A, cap, rfl, _, _, hA⟩ := hx.form
    obtain ⟨b, o, rfl, hseg⟩ := hA h0
    simp [Value.ownBlock] at hk
    subst hk
    exact World.block_lt_of_cell? w _ (hseg 0 _ (List.getElem?_eq_getElem h0)))
  have HS0 : Hid (OwS B s v L N X w 0 (.slice none 0 0) [] w) := hid ⟨hx, World.ownsRow_nil _ _ _ _, fun j _ h => hown j h, fun j h => absurd h (Nat.not_lt_zero j), fun j h => absurd h (Nat.not_lt_zero j), Below.refl _ _, Nat.le_refl _⟩
  have HLT : Hid (∀ j, j < L.length → ∀ k, (L.getD j undef).ownBlock = some k → k < w.heap.size) := hid (fun j hj k hk => ((hown j hj).lt k hk).2)
  have HSEP := hid hsep; have HV := hid hv; have HN := hid hN
  obtain ⟨A, cap, rfl, hlc, hcm, _⟩ := hx.form
  clear hx hown hsep hv hN hs
  obtain ⟨n, hn⟩ : ∃ n, L.length = n := ⟨_, rfl⟩
  have HL := hid hn
  rw [hn] at hnL hlc HSH hvlt HLT HSEP HV ⊢
  rw [hn] at HS0
  clear hn
  go_enter Tryz.func14, Tryz.ntmps14
  go_wp2_with fail
  go_loopw [5, 17] (fun v5 i wr => ∃ (t : Nat) (ls : List Value), t ≤ n ∧ i = .int .i64 t ∧ Hid (OwS B s (.slice A n cap) L N X w t v5 ls wr)) (fun _ i _ => n - (intOf i).toNat)
  case atStart => exact ⟨0, [], by omega, rfl, HS0⟩
  case round =>
    obtain ⟨t, ls, ht, rfl, hst⟩ := hrel
    clear HS0
    generalize wr = wa at *
    by_cases hlt : t < n
    · have htl : t < L.length := by rw [HL.out]; exact hlt
      have hrd := hst.out.rdv
      obtain ⟨b, o, rfl, hseg⟩ := hrd.at (by omega)
      have hcell : wa.cell? ⟨b, o + t, none⟩ = some (L.getD t undef) := hseg t _ (by rw [List.getElem?_eq_getElem htl]; simp [List.getD, List.getElem?_eq_getElem htl])
      have HOWN := hid (hst.out.mine t (Nat.le_refl _) htl)
      clear hrd hseg
      generalize hLt : L.getD t undef = Lt at *
      have HLt := hid hLt
      obtain ⟨D, cd, rfl, hcd1, hcd2, hlen, _⟩ := owns_form HOWN.out
      have hNt := HN.out t
      generalize hm : N t = m at *
      have HMm := hid hm
      have hmk := mk_walk t (by omega)
      clear hLt hm hlen
      go_wp2_with fail
      have HX0 : Hid ((X t).length = m) := hid (by have := HOWN.out.1; omega)
      -- the entries
      go_loopw [24] (fun i wv => ∃ u : Nat, u ≤ m ∧ i = .int .i64 u ∧ Hid (wv.ownsRow B 40 1 (.slice D m cd) m (marked t u ++ (X t).drop u)) ∧ Hid (∀ k, (Value.slice D m cd).ownBlock ≠ some k → wv.heap[k]? = wa.heap[k]?) ∧ Hid (wv.heap.size = wa.heap.size) ∧ Hid (Below B w wv)) (fun i _ => m - (intOf i).toNat)
      case atStart => exact ⟨0, by omega, rfl, hid (by simpa [marked] using HOWN.out), hid (fun _ _ => rfl), hid rfl, hid hst.out.bel⟩
      case round =>
        obtain ⟨u, hu, rfl, how, hkp, hsz, hbl⟩ := hrel
        by_cases hlu : u < m
        · obtain ⟨A9, cap9, he9, _, _, hlen9, hform⟩ := owns_form how.out
          injection he9 with e1 e2 e3
          subst e1 e3
          obtain ⟨g, rfl, hBg, hgs, hc, hf⟩ := hform (by omega)
          have c1 : wr.cell? ⟨g, u, none⟩ = some ((X t).getD u undef) := by
            have hxl := HX0.out
            rw [hc u hlu, List.getElem?_append_right (by simp [marked])]
            simp only [marked, List.length_replicate, Nat.sub_self, List.getElem?_drop, Nat.add_zero]
            rw [List.getElem?_eq_getElem (by omega)]; simp [List.getD, List.getElem?_eq_getElem (show u < (X t).length by omega)]
          have f1 := hf u
          have HST := hid (owns_set how.out u (mk t))
          have HNX : Hid ((marked t u ++ (X t).drop u).set u (mk t) = marked t (u + 1) ++ (X t).drop (u + 1)) := hid (by
            have hxl := HX0.out
            rw [List.set_append_right _ _ (by simp [marked])]
            simp only [marked, List.length_replicate, Nat.sub_self]
            rw [List.drop_eq_getElem_cons (by omega), List.set_cons_zero, List.replicate_succ', List.append_assoc]; rfl)
          clear hform hc hf
          generalize (X t).getD u undef = old at *
          go_wp2_with fail
          rw [if_u64, hmk]
          go_roundw
          case rel =>
            refine ⟨u + 1, by omega, by go_num, hid (by rw [← HNX.out]; exact HST.out), hid (fun k hk => ?_), hid (by rw [← hsz.out]; simp [World.setCell]), hid (below_set hbl.out _ _ _ hBg)⟩
            rw [heap_setCell_other _ _ k _ (fun e => hk (by simp [Value.ownBlock, e]))]
            exact hkp.out k hk
          case measure => simp [intOf]; omega
        · obtain rfl : u = m := by omega
          have hdr : (X t).drop u = [] := List.drop_of_length_le (by rw [HX0.out]; exact Nat.le_refl _)
          rw [hdr, List.append_nil] at how
          clear hdr
          generalize wr = wb at *
          have HD1 := hid (owns_first how.out)
          have HDL : Hid (∀ k, (Value.slice D u cd).ownBlock = some k → k < wb.heap.size) := hid (fun k hk => (how.out.lt k hk).2)
          go_wp2_with fail
          go_loopw [7, 9] (fun v7 i wv => ∃ c : Nat, c ≤ s ∧ i = .int .i64 c ∧ Hid (wv.ownsRow B 40 1 v7 (u + c) (marked t (u + c))) ∧ Hid (Rd wv (.slice D u cd) u 1 (marked t u)) ∧ Hid (∀ k, k < wb.heap.size → (Value.slice D u cd).ownBlock ≠ some k → wv.heap[k]? = wb.heap[k]?) ∧ Hid (wb.heap.size ≤ wv.heap.size) ∧ Hid (∀ k, v7.ownBlock = some k → (Value.slice D u cd).ownBlock = some k ∨ wb.heap.size ≤ k) ∧ Hid (Below B w wv)) (fun _ i _ => s - (intOf i).toNat)
          case atStart => exact ⟨0, by omega, rfl, how, hid (owns_rd how.out), hid (fun _ _ _ => rfl), hid (Nat.le_refl _), hid (fun k hk => .inl hk), hbl⟩
          case round =>
            obtain ⟨c, hc, rfl, ho7, hr7, hk7, hs7, hw7, hb7⟩ := hrel
            by_cases hlc7 : c < s
            · have HBS : Hid (B ≤ wr.heap.size) := hid (Nat.le_trans hB hb7.out.size)
              go_wp2_with (first
                | (go_at_call 35; refine (HSH.out _).mono ?_; rintro e w' ⟨rfl, nd, rfl⟩)
                | (at_builtin; refine wpList_append1W rfl (.tmp 43) (.tmp 48) rfl 40 (.int .u64 0) 8 Tryz.underlying28 Tryz.info45 rfl rfl rfl (owns_keep (w' := wr.drewN nd) ho7.out (fun _ _ => rfl)) HBS.out (by rfl) (by unfold maxLen; omega) (by omega) ?_; intro v' w' ho hb3 hsz3 hk3 hw3; have HO := hid ho; have HB3 := hid hb3; have HSZ3 := hid hsz3; have HK3 := hid hk3; have HW3 := hid hw3; clear ho hb3 hsz3 hk3 hw3))
              go_roundw
              case rel =>
                have hsn : marked t (u + c) ++ [.int .u64 ((18446744073709551615 - (501 + t) : Nat) : Int)] = marked t (u + c + 1) := marked_snoc t (u + c)
                have ho9 : w'.ownsRow B 40 1 v' (u + c + 1) (marked t (u + c + 1)) := by
                  have h := HO.out
                  rw [if_u64, hmk] at h
                  rw [← hsn]; exact h
                refine ⟨c + 1, by omega, by go_num, hid ho9, hid (keep_marked HD1.out hr7.out ho9 (by omega) ?_), hid ?_, hid (Nat.le_trans hs7.out HSZ3.out), hid ?_, hid (hb7.out.trans ((Go.below_drewN (Below.refl B wr) nd).trans HB3.out))⟩
                · intro k hk
                  have hkl := HDL.out k hk
                  rcases HW3.out with h | ⟨_, h⟩
                  · by_cases hu7 : u7.ownBlock = some k
                    · exact .inl (by rw [h]; exact hu7)
                    · exact .inr (HK3.out k (Nat.lt_of_lt_of_le hkl hs7.out) (fun e => hu7 e.symm))
                  · exact .inr (h k (Nat.lt_of_lt_of_le hkl hs7.out))
                · intro k hk hne
                  have hne7 : some k ≠ u7.ownBlock := fun e => by
                    rcases hw7.out k e.symm with h | h
                    · exact hne h
                    · omega
                  rw [← hk7.out k hk hne]
                  exact HK3.out k (Nat.lt_of_lt_of_le hk hs7.out) hne7
                · intro k hk
                  rcases HW3.out with h | ⟨h, _⟩
                  · exact hw7.out k (h.symm.trans hk)
                  · exact .inr (Nat.le_trans hs7.out (h k hk))
              case measure => simp [intOf]; omega
            · obtain rfl : c = s := by omega
              generalize wr = wc at *
              have HLS := hid hst.out.lon
              have HWS : Hid (w.heap.size ≤ wa.heap.size) := hid hst.out.size
              have HWB : Hid (wa.heap.size = wb.heap.size) := hid hsz.out.symm
              -- what lies elsewhere stands
              have HEL : Hid (∀ k, k < wb.heap.size → (Value.slice D u cd).ownBlock ≠ some k → wc.heap[k]? = wa.heap[k]?) := hid (fun k hk hne => (hk7.out k hk hne).trans (hkp.out k hne))
              have HNL : Hid (∀ k, u5.ownBlock = some k → (Value.slice D u cd).ownBlock ≠ some k) := hid (fun k hk e => by
                have h1 := (HLS.out.lt k hk).1
                have h2 := HLT.out t hlt k (by rw [HLt.out]; exact e)
                omega)
              have HLC : Hid (wc.ownsRow w.heap.size 28 1 u5 t ls) := hid (owns_keep HLS.out (fun k hk => HEL.out k (by have := (HLS.out.lt k hk).2; have := HWB.out; omega) (HNL.out k hk)))
              have HWC : Hid (w.heap.size ≤ wc.heap.size) := hid (by have := HWS.out; have := HWB.out; have := hs7.out; omega)
              obtain ⟨D7, cd7, rfl, _, _, _, _⟩ := owns_form ho7.out
              go_wp2_with (first
                | (go_at_call 35; refine (HSH.out _).mono ?_; rintro e w' ⟨rfl, nd, rfl⟩)
                | (at_builtin; refine wpList_append1W rfl (.tmp 50) (.tmp 52) rfl 28 (.slice none 0 0) 24 Tryz.underlying37 Tryz.infoWs rfl rfl rfl (owns_keep (w' := wc.drewN nd) HLC.out (fun _ _ => rfl)) HWC.out (by rfl) (by unfold maxLen; omega) (by omega) ?_; intro v' w' ho hb3 hsz3 hk3 hw3; have HO := hid ho; have HB3 := hid hb3; have HSZ3 := hid hsz3; have HK3 := hid hk3; have HW3 := hid hw3; clear ho hb3 hsz3 hk3 hw3))
              go_roundw
              case rel =>
                refine ⟨t + 1, ls ++ [.slice D7 (u + c) cd7], by omega, by go_num, hid ?_⟩
                exact hst.out.step htl HLt.out HMm.out (by have := HWB.out; have := hs7.out; omega) (fun k hk hne => HEL.out k (by have := HWB.out; omega) hne) hr7.out ho7.out (fun k hk => by rw [HWB.out]; exact hw7.out k hk) HO.out HSZ3.out HK3.out HW3.out ((Go.below_drewN hb7.out nd).trans (HB3.out.mono hB)) (by rw [HL.out]; exact HLT.out) (by rw [HL.out]; exact HSEP.out) (by rw [HL.out]; exact HV.out) (hvlt.out (by omega))
              case measure => simp [intOf]; omega
    · obtain rfl : t = n := by omega
      have HDO := hid hst.out.done
      have HRV := hid hst.out.rdv
      have HLO := hid hst.out.lon
      have HBE := hid hst.out.bel
      obtain ⟨A5, c5, rfl, _, _, _, _⟩ := owns_form HLO.out
      clear hst
      go_wp2_with fail
      go_loop [57] (fun i => ∃ q : Nat, q ≤ t ∧ i = .int .i64 q) (fun i => t - (intOf i).toNat)
      case atStart => exact ⟨0, by omega, rfl⟩
      case round =>
        obtain ⟨q, hq, rfl⟩ := hrel
        by_cases hlq : q < t
        · obtain ⟨hd1, hd2⟩ := HDO.out q hlq
          have HD1 := hid hd1
          have HD2 := hid hd2
          obtain ⟨b, o, rfl, hseg⟩ := HRV.out.at (by rw [HL.out]; omega)
          have hql : q < L.length := by rw [HL.out]; exact hlq
          have hcell : wa.cell? ⟨b, o + q, none⟩ = some (L.getD q undef) := hseg q _ (by rw [List.getElem?_eq_getElem hql]; simp [List.getD, List.getElem?_eq_getElem hql])
          obtain ⟨b5, o5, rfl, hseg5⟩ := (owns_rd HLO.out).at (by omega)
          have hlsl : ls.length = t := by have := HLO.out.1; omega
          have hcell5 : wa.cell? ⟨b5, o5 + q, none⟩ = some (ls.getD q undef) := hseg5 q _ (by rw [List.getElem?_eq_getElem (by omega)]; simp [List.getD, List.getElem?_eq_getElem (show q < ls.length by omega)])
          clear hseg hseg5 hd1 hd2 hlsl
          generalize L.getD q undef = Lq at *
          generalize ls.getD q undef = lq at *
          have hNq := HN.out q
          generalize N q = m at *
          obtain ⟨D, cd, rfl, _, _, hf1⟩ := HD1.out.form
          obtain ⟨E, ce, rfl, _, _, hf2⟩ := HD2.out.form
          obtain ⟨z, hz⟩ : ∃ z, 18446744073709551615 - (501 + q) = z := ⟨_, rfl⟩
          have hmk := mk_walk q (by omega)
          rw [hz] at hmk
          have hmk2 : bits BinOp.xor IntKind.u64 (if IntKind.u64.signed = true then -1 else IntKind.u64.max) (501 + (q : Int)) = (z : Int) := by rw [if_u64]; exact hmk
          have HMQ : Hid (mk q = .int .u64 (z : Int)) := hid (by rw [mk, hz])
          have hzz : ((z : Int) != (z : Int)) = false := by simp
          clear hmk hz
          go_wp2_with fail
          go_loop [65] (fun i => ∃ u : Nat, u ≤ m ∧ i = .int .i64 u) (fun i => m - (intOf i).toNat)
          case atStart => exact ⟨0, by omega, rfl⟩
          case round =>
            obtain ⟨u, hu, rfl⟩ := hrel
            by_cases hlu : u < m
            · obtain ⟨g, o1, rfl, hs1⟩ := hf1 (by omega)
              have hc1 : wa.cell? ⟨g, o1 + u, none⟩ = some (.int .u64 (z : Int)) := by rw [← HMQ.out]; exact hs1 u _ (marked_get q m u hlu)
              clear hf1 hf2 hs1
              go_wp2_with fail
              go_round
              case rel => exact ⟨u + 1, by omega, by go_num⟩
              case measure => simp [intOf]; omega
            · obtain rfl : u = m := by omega
              clear hf1
              go_wp2_with fail
              go_loop [81] (fun i => ∃ u2 : Nat, u2 ≤ u + s ∧ i = .int .i64 u2) (fun i => u + s - (intOf i).toNat)
              case atStart => exact ⟨0, by omega, rfl⟩
              case round =>
                obtain ⟨u2, hu2, rfl⟩ := hrel
                by_cases hlu2 : u2 < u + s
                · obtain ⟨g, o1, rfl, hs1⟩ := hf2 (by omega)
                  have hc1 : wa.cell? ⟨g, o1 + u2, none⟩ = some (.int .u64 (z : Int)) := by rw [← HMQ.out]; exact hs1 u2 _ (marked_get q (u + s) u2 hlu2)
                  have hi : (u2 : Int) < (u : Int) + (s : Int) := by omega
                  clear hf2 hs1
                  go_wp2_with fail
                  go_round
                  case rel => exact ⟨u2 + 1, by omega, by go_num⟩
                  case measure => simp [intOf]; omega
                · obtain rfl : u2 = u + s := by omega
                  clear hf2
                  go_wp2_with fail
                  go_round
                  case rel => exact ⟨q + 1, by omega, by go_num⟩
                  case measure => simp [intOf]; omega
        · obtain rfl : q = t := by omega
          go_wp2_with fail
          go_ret
          exact ⟨rfl, HBE.out⟩
end Go.Proofs.YthonbfojpbfmgaaGreatDoor

/- LawFilter's walk. -/
set_option linter.unusedVariables false
set_option linter.unusedSimpArgs false
set_option linter.unnecessarySimpa false
set_option maxRecDepth 100000
namespace Go.Proofs.YthonbfojpbfmgaaGreatDoor
open Go.RowKit

theorem rfZ_len (kind rows op col : Int) (args : List C3) (xs : List Nat) (t : Int) : (rfZ kind rows op col args xs t).length ≤ 1100 := by
  unfold rfZ
  split
  · rename_i h
    have hg : (isKind kind && isRows rows) = true := by
      by_cases h2 : (isKind kind && isRows rows) = true
      · exact h2
      · exfalso; unfold rfCode refCode at h; rw [if_neg h2] at h; simp at h
    rw [Bool.and_eq_true] at hg
    have h2 := hg.2
    unfold isRows at h2
    have h3 := of_decide_eq_true h2
    rw [(bmL_isBm _).1, rfB_len, nWords1]
    omega
  · simp
theorem rowB2_lay {w : World} {g m : Nat} {xs : List Nat} (h : Row w g 5 (u8s (xs ++ tailB m))) (hl : xs.length + m ≤ maxLen) :
    Rd w (.slice (some ⟨g, 0, none⟩) (xs.length + m) (xs.length + m)) (xs ++ tailB m).length 1 (u8s (xs ++ tailB m)) := by
  have e : (xs ++ tailB m).length = xs.length + m := by simp [tailB_length]
  rw [e]
  exact h.rd' (by rw [u8s_length, e]) hl
theorem rowB2_part {w : World} {g m : Nat} {xs : List Nat} (h : Row w g 5 (u8s (xs ++ tailB m))) (hl : xs.length + m ≤ maxLen) :
    Rd w (.slice (some ⟨g, 0, none⟩) xs.length (xs.length + m)) xs.length 1 (u8s xs) := by
  have := h.rd 0 xs.length (xs.length + m) (by simp [u8s]) (by omega) hl
  rw [List.drop_zero, u8s_append, ← u8s_length xs, List.take_left] at this
  rwa [u8s_length] at this
theorem rowC2_lay {w : World} {g m : Nat} {cs : List C3} (h : Row w g 42 (cells3 (cs ++ tailC m))) (hl : cs.length + m ≤ maxLen) :
    Rd w (.slice (some ⟨g, 0, none⟩) (cs.length + m) (cs.length + m)) (cs ++ tailC m).length 3 (cells3 (cs ++ tailC m)) := by
  have e : (cs ++ tailC m).length = cs.length + m := by rw [List.length_append, tailC_length]
  rw [e]
  refine ⟨by rw [cells3_length, e], .inr ⟨g, 0, cs.length + m, rfl, Nat.le_refl _, hl, ?_⟩⟩
  intro i v hv
  rw [Nat.zero_add, h.cell]; exact hv
theorem rowC2_part {w : World} {g m : Nat} {cs : List C3} (h : Row w g 42 (cells3 (cs ++ tailC m))) (hl : cs.length + m ≤ maxLen) :
    Rd w (.slice (some ⟨g, 0, none⟩) cs.length (cs.length + m)) cs.length 3 (cells3 cs) := by
  refine ⟨cells3_length cs, .inr ⟨g, 0, cs.length + m, rfl, by omega, hl, ?_⟩⟩
  intro i v hv
  have hi : i < (cells3 cs).length := by
    rcases Nat.lt_or_ge i (cells3 cs).length with h | h
    · exact h
    · rw [List.getElem?_eq_none h] at hv; cases hv
  rw [Nat.zero_add, h.cell, cells3_append, List.getElem?_append_left hi]; exact hv
set_option maxHeartbeats 16000000 in
theorem lawFilter_walk (v2 av : Value) (xs : List Nat) (args : List C3) (kind rows op col r : Int) (w : World) (ht : Tab w) (hv : Rd w v2 xs.length 1 (u8s xs)) (hx : Rd w av args.length 3 (cells3 args)) (hb : ∀ x ∈ xs, x < 256) (hl : xs.length ≤ 16777216) (hal : args.length ≤ 1048576) (har : ∀ c ∈ args, okI c.i) :
    Calls Tryz.prog 3 #[.int .i64 kind, .int .i64 rows, v2, .agg #[.int .i64 op, .int .i64 col, av], .int .i64 r] w fun e w' => e = .returned (.bool true) ∧ Below w.heap.size w w' := by
  have hm := clipN_le r
  obtain ⟨m, hmr⟩ : ∃ m, clipN r = m := ⟨_, rfl⟩
  rw [hmr] at hm
  have HLB := hid (fun (w2 : World) (h : Below w.heap.size w w2) => layBytes_any v2 xs r w2 (hv.mono h) (by omega))
  have HLC := hid (fun (w2 : World) (h : Below w.heap.size w w2) => layCells_any av args r w2 (hx.mono h) (by omega))
  rw [hmr] at HLB HLC
  have HFI := hid (fun (w2 : World) (v a : Value) (h : Below w.heap.size w w2) (h1 : Rd w2 v xs.length 1 (u8s xs)) (h2 : Rd w2 a args.length 3 (cells3 args)) => FilterM_any w2 v a xs kind rows op col args (ht.mono h ht.lt) h1 hb hl h2 hal har)
  have HFR := hid (fun (w2 : World) (h : Below w.heap.size w w2) => refFilter_any kind rows op col v2 av xs args w2 (hv.mono h) hb hl (hx.mono h))
  have hz2 := rfZ_len kind rows op col args xs 2
  have hz1 := rfZ_len kind rows op col args xs 1
  unfold FilDoc at HFI
  unfold RfAns at HFR
  generalize rfZ kind rows op col args xs 2 = Z2 at *
  generalize rfZ kind rows op col args xs 1 = Z1 at *
  generalize rfCode kind rows op col args xs = code at *
  have HZ2 := hid hz2; have HZ1 := hid hz1
  have HSB := hid (fun (g g' : Nat) (w2 : World) (h1 : Row w2 g 5 (u8s (xs ++ tailB m))) (h2 : Row w2 g' 5 (u8s (xs ++ tailB m))) => sameBytes_same _ _ (xs ++ tailB m) w2 (rowB2_lay h1 (by unfold maxLen; omega)) (rowB2_lay h2 (by unfold maxLen; omega)))
  have HSC := hid (fun (g g' : Nat) (w2 : World) (h1 : Row w2 g 42 (cells3 (args ++ tailC m))) (h2 : Row w2 g' 42 (cells3 (args ++ tailC m))) => sameCells3 _ _ (args ++ tailC m) w2 (rowC2_lay h1 (by unfold maxLen; omega)) (rowC2_lay h2 (by unfold maxLen; omega)) (by rw [List.length_append, tailC_length]; omega))
  have HPB := hid (fun (g : Nat) (w2 : World) (h : Row w2 g 5 (u8s (xs ++ tailB m))) => rowB2_part h (by unfold maxLen; omega))
  have HPC := hid (fun (g : Nat) (w2 : World) (h : Row w2 g 42 (cells3 (args ++ tailC m))) => rowC2_part h (by unfold maxLen; omega))
  obtain ⟨A0, c0, rfl, _, _, _⟩ := hv.form
  obtain ⟨A1, ca, rfl, _, _, _⟩ := hx.form
  clear hv hx hb har ht hz2 hz1 hmr
  obtain ⟨xn, hxn⟩ : ∃ xn, xs.length = xn := ⟨_, rfl⟩
  obtain ⟨an, han⟩ : ∃ an, args.length = an := ⟨_, rfl⟩
  simp only [hxn, han] at HLB HLC HFI HFR HSB HSC HPB HPC hl hal ⊢
  clear hxn han
  generalize u8s (xs ++ tailB m) = XB at *
  generalize cells3 (args ++ tailC m) = XC at *
  obtain ⟨ro, hbo⟩ := fresh (w := w) (C := #[.int .i64 op, .int .i64 col, .slice A1 an ca]) (e := 25)
  have HRN := hid ro; have HB0 := hid hbo
  clear ro hbo
  have hlt0 : w.heap.size < (w.alloc (.cells #[.int .i64 op, .int .i64 col, .slice A1 an ca] 25)).heap.size := by simp
  go_enter Tryz.func3, Tryz.ntmps3
  go_upto_region 1 with fail
  generalize w.alloc (.cells #[.int .i64 op, .int .i64 col, .slice A1 an ca] 25) = w0 at *
  have HLT0 := hid hlt0
  clear hlt0
  go_upto_region 2 with (go_at_call 7; refine (HLB.out _ HB0.out).mono ?_; rintro e w1 ⟨rfl, hr1, hb1, hz9⟩; have HR1 := hid hr1; have HB1 := hid (HB0.out.trans (hb1.mono HB0.out.size)); have HRN1 := hid (HRN.out.mono hb1); clear hr1 hb1 hz9)
  obtain ⟨k0, k1, k2⟩ := cell3 HRN1.out
  go_upto_region 3 with (go_at_call 8; refine (HLC.out _ HB1.out).mono ?_; rintro e w2 ⟨rfl, hr2, hb2, hz9⟩; have HR2 := hid hr2; have HB2 := hid (HB1.out.trans (hb2.mono HB1.out.size)); have HRN2 := hid (HRN1.out.mono hb2); have HR12 := hid (HR1.out.mono hb2); clear hr2 hb2 hz9)
  generalize w0.heap.size = g1 at *
  generalize w1.heap.size = g2 at *
  clear k0 k1 k2 HRN HRN1 HR1 HB0 HB1
  obtain ⟨k0, k1, k2⟩ := cell3 HRN2.out
  have s1 : (xn : Int) ≤ (xn : Int) + (m : Int) := by omega
  have s2 : (an : Int) ≤ (an : Int) + (m : Int) := by omega
  have s3 : xn ≤ xn + m := by omega
  have s4 : an ≤ an + m := by omega
  have hsz2 := HB2.out.size
  have HZN := hid ((brefl w2).alloc (Nat.le_refl _) (.cells #[.int .i64 0, .int .i64 0, .slice none 0 0] 25))
  have HZR := hid (HRN2.out.mono HZN.out)
  obtain ⟨n0, n1, n2⟩ := cell3 HZR.out
  go_region
  go_upto_region 4 with fail
  have HA3 : Hid (Below w2.heap.size w2 (w2.alloc (.cells #[.int .i64 op, .int .i64 col, .slice (some ⟨g2, 0, none⟩) an (an + m)] 25)).drew) := hid (bdrew ((brefl w2).alloc (Nat.le_refl _) (.cells #[.int .i64 op, .int .i64 col, .slice (some ⟨g2, 0, none⟩) an (an + m)] 25)) 1)
  have HRM3 : Hid (Row (w2.alloc (.cells #[.int .i64 op, .int .i64 col, .slice (some ⟨g2, 0, none⟩) an (an + m)] 25)).drew w2.heap.size 25 [.int .i64 op, .int .i64 col, .slice (some ⟨g2, 0, none⟩) an (an + m)]) := hid (by show Row (w2.alloc (.cells #[.int .i64 op, .int .i64 col, .slice (some ⟨g2, 0, none⟩) an (an + m)] 25)) w2.heap.size 25 [.int .i64 op, .int .i64 col, .slice (some ⟨g2, 0, none⟩) an (an + m)]; unfold Row; rw [heap_alloc_new])
  have HRN3 := hid (HRN2.out.mono HA3.out)
  have HR13 := hid (HR12.out.mono HA3.out)
  have HR23 := hid (HR2.out.mono HA3.out)
  have HB3 := hid (HB2.out.trans (HA3.out.mono HB2.out.size))
  clear n0 n1 n2 k0 k1 k2 HZR HZN HA3 HRN2 HR12 HR2
  generalize (w2.alloc (.cells #[.int .i64 op, .int .i64 col, .slice (some ⟨g2, 0, none⟩) an (an + m)] 25)).drew = w3 at *
  have hm3 : w2.heap.size < w3.heap.size := HRM3.out.lt
  generalize w2.heap.size = g3 at *
  have HBX := hid (HB3.out.size)
  go_cut [14, 15] from 35 to 46 (fun s14 s15 wc => s15 = .int .i64 code ∧ ∃ (gp : Nat) (T1 U1 : Option Addr) (e1 e2 : Nat), s14 = .pointer (some ⟨gp, 0, none⟩) ∧ w3.heap.size ≤ gp ∧ Hid (Row wc gp 30 [.slice T1 Z2.length e1, .slice U1 Z1.length e2]) ∧
    Hid (wc.ownsRow w3.heap.size 40 1 (.slice T1 Z2.length e1) Z2.length (u64s Z2)) ∧ Hid (wc.ownsRow w3.heap.size 40 1 (.slice U1 Z1.length e2) Z1.length (u64s Z1)) ∧ Hid (∀ k, (Value.slice T1 Z2.length e1).ownBlock = some k → (Value.slice U1 Z1.length e2).ownBlock ≠ some k) ∧ Hid (Below w3.heap.size w3 wc))
  case first =>
    obtain ⟨m0, m1, m2⟩ := cell3 HRM3.out
    have HFX := hid (fun (w4 : World) (h : Below w3.heap.size w3 w4) => HFI.out w4 _ _ (HB3.out.trans (h.mono HB3.out.size)) (HPB.out g1 w4 (HR13.out.mono h)) (HPC.out g2 w4 (HR23.out.mono h)))
    go_region_held3 (fun w' => w'.cell? ⟨g3, 0, none⟩ = some (.int .i64 op) ∧ w'.cell? ⟨g3, 1, none⟩ = some (.int .i64 col) ∧ w'.cell? ⟨g3, 2, none⟩ = some (.slice (some ⟨g2, 0, none⟩) an (an + m))) (first | go_keep | exact ⟨by rw [cell_setP _ _ _ _ _ _ (by omega)]; exact q0, by rw [cell_setP _ _ _ _ _ _ (by omega)]; exact q1, by rw [cell_setP _ _ _ _ _ _ (by omega)]; exact q2⟩)
      (first
        | (go_at_call 9; refine (HFX.out _ (bdrew (brefl w3) 1)).mono ?_; rintro e w4 ⟨tv, uv, rfl, ho1, ho2, hd, hb4⟩; have HO1 := hid ho1; have HO2 := hid ho2; have HD := hid hd; have HB4 : Hid (Below w3.heap.size w3 w4) := hid (bthen (bdrew (brefl w3) 1) hb4); have HRM4 := hid (HRM3.out.mono HB4.out); obtain ⟨T1, e1, rfl, _⟩ := owns_form ho1; obtain ⟨U1, e2, rfl, _⟩ := owns_form ho2; obtain ⟨q0, q1, q2⟩ := cell3 HRM4.out; clear ho1 ho2 hd hb4)
        | (go_at_call 9; refine (HFX.out _ (bdrew ((brefl w3).alloc (Nat.le_refl _) (.cells #[.slice none 0 0, .slice none 0 0] 30)) 1)).mono ?_; rintro e w4 ⟨tv, uv, rfl, ho1, ho2, hd, hb4⟩; have HO1 := hid ho1; have HO2 := hid ho2; have HD := hid hd; have HB4 : Hid (Below w3.heap.size w3 w4) := hid (bthen (bdrew ((brefl w3).alloc (Nat.le_refl _) (.cells #[.slice none 0 0, .slice none 0 0] 30)) 1) hb4); have HRM4 := hid (HRM3.out.mono HB4.out); have HRY4 : Hid (Row w4 w3.heap.size 30 [.slice none 0 0, .slice none 0 0]) := hid (Row.mono (show Row (w3.alloc (.cells #[.slice none 0 0, .slice none 0 0] 30)).drew w3.heap.size 30 [.slice none 0 0, .slice none 0 0] by show Row (w3.alloc (.cells #[.slice none 0 0, .slice none 0 0] 30)) w3.heap.size 30 [.slice none 0 0, .slice none 0 0]; unfold Row; rw [heap_alloc_new]) hb4); obtain ⟨T1, e1, rfl, _⟩ := owns_form ho1; obtain ⟨U1, e2, rfl, _⟩ := owns_form ho2; obtain ⟨q0, q1, q2⟩ := cell3 HRM4.out; have y0 := HRY4.out.cell 0; have y1 := HRY4.out.cell 1; have f0 := HRY4.out.frozen 0; have f1 := HRY4.out.frozen 1; clear ho1 ho2 hd hb4))
    · go_wp2_with fail
      go_meet
      exact ⟨rfl, w4.heap.size, T1, U1, e1, e2, rfl, HB4.out.size, hid (by unfold Row; rw [heap_alloc_new]), hid (owns_low (owns_below HO1.out ((brefl w4).alloc (Nat.le_refl _) _)) (by simp)), hid (owns_low (owns_below HO2.out ((brefl w4).alloc (Nat.le_refl _) _)) (by simp)), HD, hid (HB4.out.alloc HB4.out.size _)⟩
    · go_wp2_with fail
      go_meet
      exact ⟨rfl, w3.heap.size, T1, U1, e1, e2, rfl, Nat.le_refl _, hid ((HRY4.out.set 0 _).set 1 _), hid (owns_low (owns_chg HO1.out (((Chg.refl w3.heap.size w3.heap.size w4).setCell w3.heap.size 0 _ (.inl rfl)).setCell w3.heap.size 1 _ (.inl rfl)) (by simp) (by simp)) (by simp)), hid (owns_low (owns_chg HO2.out (((Chg.refl w3.heap.size w3.heap.size w4).setCell w3.heap.size 0 _ (.inl rfl)).setCell w3.heap.size 1 _ (.inl rfl)) (by simp) (by simp)) (by simp)), HD, hid (below_set (below_set HB4.out _ _ _ (Nat.le_refl _)) _ _ _ (Nat.le_refl _))⟩
  case rest =>
    obtain ⟨rfl, gp, T1, U1, e1, e2, rfl, hgp, HRP, HO1, HO2, HD, HB4⟩ := hcut
    have HRNc := hid (HRN3.out.mono HB4.out)
    have HR1c := hid (HR13.out.mono HB4.out)
    have HR2c := hid (HR23.out.mono HB4.out)
    have HBc := hid (HB3.out.trans (HB4.out.mono HB3.out.size))
    have hszc : w3.heap.size ≤ wc.heap.size := HB4.out.size
    have hgpc : gp < wc.heap.size := HRP.out.lt
    clear HRN3 HR13 HR23 HRM3 HFI HPB HPC HB4 hm3
    obtain ⟨k0, k1, k2⟩ := cell3 HRNc.out
    have HFRc := hid (HFR.out wc HBc.out)
    go_upto_region 6 with (go_at_call 10; refine HFRc.out.mono ?_; rintro e w5 ⟨tv, uv, rfl, hd1, hd2, hb5⟩; have HD1 := hid hd1; have HD2 := hid hd2; have HB5 := hid hb5; obtain ⟨D1, d1, rfl, _, _, _⟩ := hd1.form; obtain ⟨D2, d2, rfl, _, _, _⟩ := hd2.form; clear hd1 hd2 hb5)
    have HA6 := hid ((brefl w5).alloc (Nat.le_refl _) (.cells #[.slice D1 Z2.length d1, .slice D2 Z1.length d2] 30))
    have HR16 : Hid (Row (w5.alloc (.cells #[.slice D1 Z2.length d1, .slice D2 Z1.length d2] 30)) w5.heap.size 30 [.slice D1 Z2.length d1, .slice D2 Z1.length d2]) := hid (by unfold Row; rw [heap_alloc_new])
    have HB6 := hid (bthen HB5.out HA6.out)
    have HRN6 := hid (HRNc.out.mono HB6.out)
    have HR16b := hid (HR1c.out.mono HB6.out)
    have HR26 := hid (HR2c.out.mono HB6.out)
    have HRP6 := hid (HRP.out.mono HB6.out)
    have HO16 := hid (owns_below HO1.out HB6.out)
    have HO26 := hid (owns_below HO2.out HB6.out)
    have HD16 := hid (HD1.out.mono HA6.out)
    have HD26 := hid (HD2.out.mono HA6.out)
    have HBW6 := hid (HBc.out.trans (HB6.out.mono HBc.out.size))
    have hsz6 := HB6.out.size
    clear k0 k1 k2 HRNc HR1c HR2c HRP HO1 HO2 HD1 HD2 HB5 HA6 HFR HFRc
    generalize w5.alloc (.cells #[.slice D1 Z2.length d1, .slice D2 Z1.length d2] 30) = w6 at *
    generalize w5.heap.size = gd at *
    clear HB6 HBc HB3
    have HSP := hid (samePair_any (.agg #[.slice T1 Z2.length e1, .slice U1 Z1.length e2]) (.agg #[.slice D1 Z2.length d1, .slice D2 Z1.length d2]) _ _ _ _ Z2 Z1 w6 rfl rfl (owns_rd HO16.out) (owns_rd HO26.out) HD16.out HD26.out (by have := HZ2.out; unfold maxLen; omega) (by have := HZ1.out; unfold maxLen; omega))
    obtain ⟨p0, p1⟩ := cellP HRP6.out
    obtain ⟨d0, d1'⟩ := cellP HR16.out
    obtain ⟨k0, k1, k2⟩ := cell3 HRN6.out
    have hcc : (code != code) = false := by simp
    go_upto_region 8 with (first
      | (go_at_call 11; refine HSP.out.mono ?_; rintro e w7 ⟨rfl, hb7⟩; have HB7 := hid hb7; have HRN7 := hid (HRN6.out.mono hb7); clear hb7; obtain ⟨q0, q1, q2⟩ := cell3 HRN7.out)
      | (go_at_call 7; refine (HLB.out _ (HBW6.out.trans (HB7.out.mono HBW6.out.size))).mono ?_; rintro e w8 ⟨rfl, hr8, hb8, hz9⟩; have HR8 := hid hr8; have HB8 := hid (bthen HB7.out hb8); have HRN8 := hid (HRN7.out.mono hb8); clear hr8 hb8 hz9)
      | (go_at_call 12; refine (HSB.out g1 _ w8 (HR16b.out.mono HB8.out) HR8.out).mono ?_; rintro e w9 ⟨rfl, hw9⟩; replace hw9 := hw9.symm; subst hw9; obtain ⟨r0, r1, r2⟩ := cell3 HRN8.out)
      | (go_at_call 8; refine (HLC.out _ (HBW6.out.trans (HB8.out.mono HBW6.out.size))).mono ?_; rintro e w10 ⟨rfl, hr10, hb10, hz9⟩; have HR10 := hid hr10; have HB10 := hid (bthen HB8.out hb10); clear hr10 hb10 hz9)
      | (go_at_call 13; refine (HSC.out g2 _ w10 (HR26.out.mono HB10.out) HR10.out).mono ?_; rintro e w11 ⟨rfl, nd11, hw11⟩; have HB11 : Hid (Below w6.heap.size w6 w11) := (hid (by rw [hw11]; exact bdrew HB10.out nd11)); clear hw11))
    have HRP11 := hid (HRP6.out.mono HB11.out)
    have HO111 := hid (owns_below HO16.out HB11.out)
    have HO211 := hid (owns_below HO26.out HB11.out)
    have HBW11 := hid (HBW6.out.trans (HB11.out.mono HBW6.out.size))
    have hsz11 := HB11.out.size
    clear HSP HRN6 HR16b HR26 HRP6 HO16 HO26 HD16 HD26 HR16 HBW6 p0 p1 d0 d1' k0 k1 k2 HLB HLC HSB HSC HB7 HB8 HB10 HR8 HR10 q0 q1 q2 r0 r1 r2 HRN7 HRN8
    obtain ⟨p0, p1⟩ := cellP HRP11.out
    have nal : Below w11.heap.size w11 (w11.alloc (.cells #[.slice T1 Z2.length e1, .slice U1 Z1.length e2] 28)) := (Below.refl _ _).alloc (Nat.le_refl _) _
    have hnew : Row (w11.alloc (.cells #[.slice T1 Z2.length e1, .slice U1 Z1.length e2] 28)) w11.heap.size 28 [.slice T1 Z2.length e1, .slice U1 Z1.length e2] := by unfold Row; rw [heap_alloc_new]
    have HOW : Hid (Calls Tryz.prog 14 #[.slice (some ⟨w11.heap.size, 0, none⟩) 2 2, .int .i64 r] (w11.alloc (.cells #[.slice T1 Z2.length e1, .slice U1 Z1.length e2] 28)) fun e w' => e = .returned (.bool true) ∧ Below w3.heap.size (w11.alloc (.cells #[.slice T1 Z2.length e1, .slice U1 Z1.length e2] 28)) w') := hid (by
      have o1' := owns_below HO111.out nal
      have o2' := owns_below HO211.out nal
      refine ownWords_any w3.heap.size _ [.slice T1 Z2.length e1, .slice U1 Z1.length e2] (fun j => if j = 0 then Z2.length else Z1.length) (fun j => if j = 0 then u64s Z2 else u64s Z1) r _ (hnew.rd' rfl (by unfold maxLen; decide)) (by simp; omega) (by simp) (fun j => by have h1 := HZ2.out; have h2 := HZ1.out; by_cases h : j = 0 <;> simp [h] <;> omega) (fun j hj => ?_) (fun i j hij hj => ?_) (fun k hk j hj => ?_)
      · have : j = 0 ∨ j = 1 := by simp at hj; omega
        rcases this with rfl | rfl
        · exact o1'
        · exact o2'
      · have : i = 0 ∧ j = 1 := by simp at hj; omega
        obtain ⟨rfl, rfl⟩ := this
        exact HD.out
      · simp [Value.ownBlock] at hk
        subst hk
        have : j = 0 ∨ j = 1 := by simp at hj; omega
        rcases this with rfl | rfl
        · intro h
          have := (HO111.out.lt _ h).2
          omega
        · intro h
          have := (HO211.out.lt _ h).2
          omega)
    have HBW12 := hid (HBW11.out.trans (nal.mono HBW11.out.size))
    go_wp2_with (go_at_call 14; refine HOW.out.mono ?_; rintro e w12 ⟨rfl, hb12⟩)
    go_ret
    exact ⟨rfl, HBW12.out.trans (hb12.mono HBX.out)⟩
end Go.Proofs.YthonbfojpbfmgaaGreatDoor

/- From the row's hypotheses to lists of cells. -/
set_option maxRecDepth 512
set_option linter.unusedVariables false
set_option linter.unusedSimpArgs false
set_option linter.unnecessarySimpa false
namespace Go.Proofs.YthonbfojpbfmgaaGreatDoor
open Go.RowKit Go.Deep Go.ChangeShapes Go.WideShapes

/-- a cell as the reading bears it -/
def litC {H : Type} (c : C3) : DataW H := .agg [.lit (.bool c.n), .lit (.int .i64 c.i), .lit (.string c.s.data.toList)]

/-- a slice of cells that came in, as the walks want it -/
theorem open_cells {H : Type} {enc : TypeId × Value → H} {P : Program} {w : World} {base : Nat} {held : Bool} {t e : TypeId} {f0 f1 f2 : Field} {a : Option Addr} {len cap : Nat} {x : DataW H × List MemPlace}
    (ht : P.underlying t = some (.slice e)) (he : P.underlying e = some (.struct #[f0, f1, f2])) (hone : oneCellFields P #[f0, f1, f2] = true) (hc : P.cellsOf e = 3)
    (t0 : P.underlying f0.type = some .bool) (t1 : P.underlying f1.type = some (.int .i64)) (t2 : P.underlying f2.type = some .string)
    (h : ∃ fuel, DataW.trod enc P w base (fun _ => true) held fuel t (Value.slice a len cap).cells.toList = some x) :
    ∃ cs : List C3, len = cs.length ∧ Rd w (.slice a len cap) cs.length 3 (cells3 cs) ∧ (∀ c ∈ cs, (Lit.int .i64 c.i).wf = true ∧ c.s.size ≤ maxLen) ∧ (cs = [] ∨ ∃ sp, x.1 = .slice (cs.map litC) sp) := by
  obtain ⟨fuel, hf⟩ := h
  rcases Go.Deep.open_slice ht hf with ⟨hcs, _⟩ | ⟨y, l, c, m, n, D, Pl, hcs, _, hl, hm, hmm, hx, hel⟩
  · simp [Value.cells] at hcs
    obtain ⟨rfl, rfl, rfl⟩ := hcs
    exact ⟨[], rfl, ⟨rfl, .inl ⟨⟨_, rfl⟩, rfl⟩⟩, by simp, .inl rfl⟩
  · simp [Value.cells] at hcs
    obtain ⟨rfl, rfl, rfl⟩ := hcs
    simp only [if_true] at hmm
    subst hmm
    have each : ∀ i, i < m → ∃ q : C3, w.cell? (y.add (i * 3)) = some (.bool q.n) ∧ w.cell? (y.add (i * 3 + 1)) = some (.int .i64 q.i) ∧ w.cell? (y.add (i * 3 + 2)) = some (.string q.s) ∧ (Lit.int .i64 q.i).wf = true ∧ q.s.size ≤ maxLen ∧ D i = litC q := by
      intro i hi
      obtain ⟨cs', h1, h2⟩ := hel i (by omega)
      rw [hc] at h1
      obtain ⟨_, hlen, hcell⟩ := World.cells?_some h1
      obtain ⟨xs, k, hk, hxy, _, hxl, hf'⟩ := DataW.trod_struct he h2
      match xs, hxl, cs', hlen with
      | [y0, y1, y2], _, [v0, v1, v2], _ =>
        obtain ⟨o0, k0⟩ := hone_of hone 0 f0 rfl
        obtain ⟨o1, k1⟩ := hone_of hone 1 f1 rfl
        obtain ⟨o2, k2⟩ := hone_of hone 2 f2 rfl
        have g0 := hf' 0 f0 rfl
        have g1 := hf' 1 f1 rfl
        have g2 := hf' 2 f2 rfl
        simp [o0, o1, o2, k0, k1, k2] at g0 g1 g2
        have e0 := hcell 0 (by omega)
        have e1 := hcell 1 (by omega)
        have e2 := hcell 2 (by omega)
        rw [Go.Deep.add_add] at e0 e1 e2
        obtain ⟨b, hb, hy0⟩ := DataW.trod_bool t0 g0
        obtain ⟨j, hj, hy1, hw⟩ := DataW.trod_int t1 g1
        obtain ⟨s, hs, hy2, hsz⟩ := DataW.trod_string t2 g2
        simp at hb hj hs
        subst hb hj hs
        exact ⟨⟨b, j, s⟩, by simpa using e0, by simpa using e1, by simpa using e2, hw, hsz, by have h9 := congrArg Prod.fst hxy; simp only [hy0, hy1, hy2] at h9; exact h9⟩
    obtain ⟨q, hq⟩ := @Go.Deep.choose_lt C3 ⟨C3.df⟩ m _ each
    have hql : ((List.range len).map q).length = len := by simp
    refine ⟨(List.range len).map q, hql.symm, ?_, ?_, .inr ⟨_, by rw [hx]; simp only [List.map_map]; congr 1; exact List.map_congr_left (fun i hi => (hq i (by have := List.mem_range.1 hi; omega)).2.2.2.2.2)⟩⟩
    · rw [hql]
      refine ⟨by rw [cells3_length, hql], ?_⟩
      by_cases hzc : m = 0
      · have h0 : len = 0 := by omega
        subst h0 hzc
        exact .inl ⟨⟨_, rfl⟩, rfl⟩
      · have h0 := (hq 0 (by omega)).1
        have hsp : y.spot = none := by
          simp only [Addr.add, Nat.zero_mul, if_true, World.cell?] at h0
          split at h0
          · split at h0
            · cases h0
            · rename_i hs; simpa using hs
          · cases h0
        obtain ⟨b, o, s⟩ := y
        simp only at hsp
        subst hsp
        refine .inr ⟨b, o, m, rfl, hl, hm, ?_⟩
        intro i v hv
        have hi : i < len * 3 := by
          rcases Nat.lt_or_ge i (len * 3) with h | h
          · exact h
          · rw [List.getElem?_eq_none (by rw [cells3_length, hql]; exact h)] at hv; cases hv
        have hd : i / 3 < len := by omega
        obtain ⟨g0, g1, g2⟩ := cells3_get ((List.range len).map q) (i / 3) (by rw [hql]; exact hd)
        obtain ⟨e0, e1, e2, _, _, _⟩ := hq (i / 3) (by omega)
        have hgd : ((List.range len).map q).getD (i / 3) C3.df = q (i / 3) := by simp [List.getD, List.getElem?_range hd]
        rw [hgd] at g0 g1 g2
        rw [addr_add] at e0 e1 e2
        have h3 : i % 3 = 0 ∨ i % 3 = 1 ∨ i % 3 = 2 := by omega
        rcases h3 with h3 | h3 | h3
        · have hi3 : i = i / 3 * 3 := by omega
          rw [← hi3] at g0 e0; rw [e0, ← hv, g0]
        · have hi3 : i = i / 3 * 3 + 1 := by omega
          rw [← hi3] at g1 e1; rw [e1, ← hv, g1]
        · have hi3 : i = i / 3 * 3 + 2 := by omega
          rw [← hi3] at g2 e2; rw [e2, ← hv, g2]
    · intro c hc'
      obtain ⟨i, hi, rfl⟩ := List.mem_map.1 hc'
      have h9 := hq i (by have := List.mem_range.1 hi; omega)
      exact ⟨h9.2.2.2.1, h9.2.2.2.2.1⟩
end Go.Proofs.YthonbfojpbfmgaaGreatDoor
