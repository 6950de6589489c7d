/- The laws' own helpers over cells: layCells, sameCells. -/
import Derived.Test.YtioaeijogjcghaaCel3
import Derived.Test.YtioaeijogjcghaaLay
import Derived.Deep.QuietTactic
set_option linter.unusedVariables false
set_option linter.unusedSimpArgs false
set_option linter.unnecessarySimpa false
set_option maxRecDepth 20000
namespace Go.Proofs.Ytioaeijogjcghaa
open Go.RowKit

theorem run_copy_rowS {P : Program} (w : World) (dT sT ty elem : TypeId) (g o dLen dCap sz : Nat) (a : Addr) (sLen sCap : Nat) (cur : Array Value) (t : TypeId) (cs : List Value)
    (hu : P.underlying dT = some (.slice elem)) (hs : (P.info? elem).map (·.size) = some sz)
    (hg : w.heap[g]? = some (.cells cur t (0, 0))) (hn : cs.length = Nat.min sLen dLen * sz)
    (hsrc : ∀ j v, cs[j]? = some v → w.cell? (a.add j) = some v) (hfit : o + cs.length ≤ cur.size) (h1 : ∀ v ∈ cs, v.oneCell' = true) :
    (Builtin.copy_ #[dT, sT] ty #[.slice (some ⟨g, o, none⟩) dLen dCap, .slice (some a) sLen sCap]).run P w =
      .ok (goInt (Nat.min sLen dLen : Nat)) (w.setRow g (cur.toList.take o ++ cs ++ cur.toList.drop (o + cs.length)).toArray) := by
  have hl := run_loadCells_list (P := P) w a cs hsrc
  have hst := run_storeCells_at g o t cs 0 cur w hg (by simpa using hfit) h1 (P := P)
  cases hq : P.info? elem with
  | none => simp [hq] at hs
  | some i =>
    have hi : i.size = sz := by simpa [hq] using hs
    simp [Builtin.copy_, run_underlying hu, Builtin.lenOf, Builtin.firstCells, sizeOf, typeInfo, hq, hi, ← hn, hl, hst]
/-- 'copy(row, src)', a row of the call's own that is long enough, an element of sz cells -/
theorem upon_copyS {P : Program} {w : World} {o : Oper} {a : Act} {K : Act → World → Prop} {Q : Exit → Act → World → Prop} {dT sT ty : TypeId}
    (elem : TypeId) (sz : Nat) (hu : P.underlying dT = some (.slice elem)) (hsz : (P.info? elem).map (·.size) = some sz)
    {g dLen dCap : Nat} {v : Value} {t : TypeId} {cur src : List Value} {n : Nat} (hg : Row w g t cur) (hs : Rd w v n sz src) (h1 : ∀ v ∈ src, v.oneCell' = true) (hnd : n ≤ dLen) (hfit : n * sz ≤ cur.length)
    (hK : ∀ w', Row w' g t (src ++ cur.drop (n * sz)) → (∀ k, k ≠ g → w'.heap[k]? = w.heap[k]?) → Below g w w' → w'.heap.size = w.heap.size → K (a.put o.dst (goInt (n : Nat))) w') :
    o.upon P a K Q ((Sem.run P (Builtin.copy_ #[dT, sT] ty #[.slice (some ⟨g, 0, none⟩) dLen dCap, v]) w).andThen fun b w' => Result.ok (Next.value b) w') := by
  have hmin : Nat.min n dLen = n := Nat.min_eq_left hnd
  rcases hs.2 with ⟨⟨A, rfl⟩, rfl⟩ | ⟨b, o', cap, rfl, h2, h3, hseg⟩
  · have : src = [] := List.eq_nil_of_length_eq_zero (by have := hs.1; omega)
    subst this
    have hK' := hK w (by simpa using hg) (fun _ _ => rfl) (Below.refl _ _) rfl
    have hw : w.setRow g cur.toArray = w := setRow_self w g cur.toArray t (0, 0) hg
    cases A with
    | none =>
      have hi : ((P.info? elem).map (·.size)).isSome = true := by rw [hsz]; rfl
      have hr := run_copy_nil (P := P) w dT sT ty elem ⟨g, 0, none⟩ dLen dCap hu hi
      exact upon_ok hr hK'
    | some a' =>
      have hr := run_copy_rowS (P := P) w dT sT ty elem g 0 dLen dCap sz a' 0 0 cur.toArray t [] hu hsz hg (by simp) (fun j v hv => by simp at hv) (by simp) (fun v hv => by simp at hv)
      refine upon_ok hr ?_
      simp only [List.append_nil, List.length_nil, Nat.add_zero, List.take_append_drop, Array.toArray_toList, hw, hmin]
      exact hK'
  · have hlen := hs.1
    have hr := run_copy_rowS (P := P) w dT sT ty elem g 0 dLen dCap sz ⟨b, o', none⟩ n cap cur.toArray t src hu hsz hg (by rw [hmin]; exact hlen)
      (fun j v hv => by rw [addr_add]; exact hseg j v hv) (by simp; omega) h1
    rw [hmin] at hr
    refine upon_ok hr (hK _ ?_ ?_ ?_ (by simp))
    · unfold Row
      rw [setRow_heap w g cur.toArray _ t _ hg]
      simp [hlen]
    · intro k hk; exact setRow_other w g k _ hk
    · exact ⟨rfl, rfl, rfl, by simp, fun k hk => setRow_other w g k _ (by omega)⟩
/-- 'make([]T, n)' for an element of sz cells -/
theorem upon_makeS {P : Program} {w : World} {o : Oper} {a : Act} {K : Act → World → Prop} {Q : Exit → Act → World → Prop} {t : TypeId} {kl kc : IntKind} {L C : Int}
    (e : TypeId) (zs : List Value) (sz bytes : Nat) (h1 : P.underlying t = some (.slice e)) (h2 : (P.info? e).map (fun i => (i.zero, i.size, i.bytes)) = some (some (.agg zs.toArray), sz, bytes)) (hz : zs.length = sz)
    (n : Nat) (hL : L = (n : Int)) (hC : C = (n : Int)) (b2 : bytes * n ≤ 281474976710656) (b3 : n ≤ maxLen)
    (hK : ∀ w' cs, cs.length = n * sz → Row w' w.heap.size e cs → Below w.heap.size w w' → w'.heap.size = w.heap.size + 1 → K (a.put o.dst (.slice (some ⟨w.heap.size, 0, none⟩) n n)) w') :
    o.upon P a K Q ((Sem.run P (Instr.makeSlice t (.int kl L) (.int kc C)) w).andThen fun b w' => Result.ok (Next.value b) w') := by
  obtain ⟨i, hi, hz0, hz1, hz2⟩ := info_parts h2
  subst hL
  subst hC
  have hb : (i.bytes : Int) * (n : Int) ≤ 281474976710656 := by
    have h : ((i.bytes * n : Nat) : Int) ≤ 281474976710656 := by rw [hz2]; omega
    rwa [Int.natCast_mul] at h
  have h63 : (n : Int) ≤ 9223372036854775807 := by unfold maxLen at b3; omega
  have hr := run_make (P := P) w t e i _ h1 hi hz0 kl kc n n (by omega) (Int.le_refl _) hb h63
  simp only [Int.toNat_natCast, hz1] at hr
  refine upon_ok hr (hK _ (madeCells (Value.agg zs.toArray).cells (n * sz)).toList (by rw [Array.length_toList, size_madeCells]) ?_ ((Below.refl _ _).alloc (Nat.le_refl _) _) (by simp))
  unfold Row
  rw [heap_alloc_new]
theorem Try.infoC3 : (Try.prog.info? 37).map (fun i => (i.zero, i.size, i.bytes)) = some (some (.agg [.bool false, .int .i64 0, .string ByteArray.empty].toArray), 3, 32) := by kernel_rfl
def tailC (m : Nat) : List C3 := (List.range m).map fun j : Nat => ⟨true, 131 + (j : Int), ByteArray.empty⟩
theorem tailC_succ (j : Nat) : tailC (j + 1) = tailC j ++ [⟨true, 131 + (j : Int), ByteArray.empty⟩] := by simp [tailC, List.range_succ]
theorem tailC_length (m : Nat) : (tailC m).length = m := by simp [tailC]
theorem three (cs : List Value) (h : 3 ≤ cs.length) : ∃ x y z r, cs = x :: y :: z :: r := by
  match cs, h with
  | x :: y :: z :: r, _ => exact ⟨x, y, z, r, rfl⟩
theorem set3 (pre r : List Value) (x y z a b c : Value) (o : Nat) (ho : pre.length = o) : (((pre ++ x :: y :: z :: r).set o a).set (o + 1) b).set (o + 2) c = (pre ++ [a, b, c]) ++ r := by
  subst ho
  simp [List.set_append_right, List.set_append]
set_option maxHeartbeats 2000000 in
theorem layCells_any (v : Value) (cs : List C3) (r : Int) (w : World) (hx : Rd w v cs.length 3 (cells3 cs)) (hl : cs.length ≤ 4398046511104) :
    Calls Try.prog 12 #[v, .int .i64 r] w fun e w' =>
      e = .returned (.slice (some ⟨w.heap.size, 0, none⟩) (cs.length + clipN r) (cs.length + clipN r)) ∧ Row w' w.heap.size 37 (cells3 (cs ++ tailC (clipN r))) ∧ Below w.heap.size w w' ∧ w'.heap.size = w.heap.size + 1 := by
  have hc := clipN_le r
  generalize hcr : clipN r = m at *
  have HC := hcr; clear hcr
  have HX : Hid (Rd w v cs.length 3 (cells3 cs)) := hx
  obtain ⟨A, cap, rfl, _, _, _⟩ := hx.form
  clear hx
  obtain ⟨n, hn⟩ : ∃ n, cs.length = n := ⟨_, rfl⟩
  have HN := hid hn
  rw [hn] at hl HX ⊢
  clear hn
  go_enter Try.func12, Try.ntmps12
  go_wp2_with (go_at_call 20; refine (clip_any _ _).mono ?_; rintro e w' ⟨rfl, rfl⟩)
  refine upon_makeS 37 [.bool false, .int .i64 0, .string ByteArray.empty] 3 32 Try.underlying34 Try.infoC3 rfl (n + m) (by omega) (by omega) (by omega) (by unfold maxLen; omega) ?_
  intro w1 zs hzs hrow hb1 hsz1
  have HZ : Hid (w1.heap.size = w'.heap.size + 1) := hsz1
  have HZS := hid hzs
  clear hsz1 hzs
  go_wp2
  refine upon_copyS 37 3 Try.underlying34 (by kernel_rfl) hrow (HX.out.mono hb1) (oneCell_cells3 cs) (by omega) (by rw [HZS.out]; omega) ?_
  intro w2 hrow2 _ hb2 hsz2
  have hb3 : Hid (Below w'.heap.size w' w2) := hid (hb1.trans hb2)
  have HZ2 : Hid (w2.heap.size = w'.heap.size + 1) := by rw [hsz2]; exact HZ.out
  have HL : Hid ((zs.drop (n * 3)).length = m * 3) := hid (by rw [List.length_drop, HZS.out]; omega)
  generalize zs.drop (n * 3) = ys at *
  have HROW := hid hrow2
  clear hsz2 hb2 hrow hb1 HZ hrow2 HZS
  go_wp2
  go_loopw [6] (fun i wr => ∃ (j : Nat) (rs : List Value), j ≤ m ∧ i = .int .i64 (n + j : Nat) ∧ Hid (rs.length = (m - j) * 3) ∧ Hid (Row wr w'.heap.size 37 (cells3 (cs ++ tailC j) ++ rs)) ∧ Hid (Below w'.heap.size w' wr) ∧ Hid (wr.heap.size = w'.heap.size + 1))
      (fun i _ => n + m - (intOf i).toNat)
  case atStart => exact ⟨0, ys, by omega, rfl, HL, hid (by simpa [tailC] using HROW.out), hb3, HZ2⟩
  case round =>
    obtain ⟨j, rs, hj, rfl, hrs, hr, hb, hz⟩ := hrel
    clear HROW hb3 HZ2
    by_cases hlt : j < m
    · obtain ⟨x, y, z, r2, rfl⟩ := three rs (by rw [hrs.out]; omega)
      have hpl : (cells3 (cs ++ tailC j)).length = (n + j) * 3 := by rw [cells3_length, List.length_append, HN.out, tailC_length]
      have HRR := hid hr.out
      have c0 : wr.cell? ⟨w'.heap.size, (n + j) * 3, none⟩ = some x := by rw [hr.out.cell, List.getElem?_append_right (by omega), hpl]; simp
      have c1 : wr.cell? ⟨w'.heap.size, (n + j) * 3 + 1, none⟩ = some y := by rw [hr.out.cell, List.getElem?_append_right (by omega), hpl]; simp
      have c2 : wr.cell? ⟨w'.heap.size, (n + j) * 3 + 2, none⟩ = some z := by rw [hr.out.cell, List.getElem?_append_right (by omega), hpl]; simp
      have f0 := hr.out.frozen ((n + j) * 3)
      have f1 := hr.out.frozen ((n + j) * 3 + 1)
      have f2 := hr.out.frozen ((n + j) * 3 + 2)
      have HR3 : Hid (Row (((wr.setCell ⟨w'.heap.size, (n + j) * 3, none⟩ (.bool true)).setCell ⟨w'.heap.size, (n + j) * 3 + 1, none⟩ (.int .i64 (131 + (j : Int)))).setCell ⟨w'.heap.size, (n + j) * 3 + 2, none⟩ (.string ByteArray.empty)) w'.heap.size 37 (cells3 (cs ++ tailC (j + 1)) ++ r2)) := by
        have hs := ((hr.out.set ((n + j) * 3) (.bool true)).set ((n + j) * 3 + 1) (.int .i64 (131 + (j : Int)))).set ((n + j) * 3 + 2) (.string ByteArray.empty)
        rw [set3 _ _ _ _ _ _ _ _ _ hpl] at hs
        rw [tailC_succ, ← List.append_assoc, cells3_snoc]
        exact hid hs
      have HRS : Hid (r2.length = (m - (j + 1)) * 3) := hid (by have := hrs.out; simp at this; omega)
      clear hr hpl hrs HRR
      go_wp2
      rw [show (131 : Int) + ((n : Int) + (j : Int)) - (n : Int) = 131 + (j : Int) by omega]
      go_roundw
      case rel =>
        refine ⟨j + 1, r2, by omega, by go_num, HRS, HR3, hid (below_set (below_set (below_set hb.out _ _ _ (Nat.le_refl _)) _ _ _ (Nat.le_refl _)) _ _ _ (Nat.le_refl _)), hid (by rw [← hz.out]; simp [World.setCell])⟩
      case measure => simp [intOf]; omega
    · obtain rfl : j = m := by omega
      have e0 : rs = [] := List.eq_nil_of_length_eq_zero (by rw [hrs.out]; omega)
      subst e0
      rw [HN.out] at *
      go_wp2
      go_ret
      exact ⟨rfl, by simpa using hr.out, hb.out, hz.out⟩
set_option maxHeartbeats 1000000 in
theorem sameCells3 (x y : Value) (cs : List C3) (w : World) (hx : Rd w x cs.length 3 (cells3 cs)) (hy : Rd w y cs.length 3 (cells3 cs)) (hn : cs.length ≤ 9223372036854775807) :
    Calls Try.prog 16 #[x, y] w fun e w' => e = .returned (.bool true) ∧ ∃ m, w' = w.drewN m := by
  obtain ⟨A1, ca, rfl, hlc, hcm, hA⟩ := hx.form
  obtain ⟨B1, cb, rfl, hlc2, hcm2, hB⟩ := hy.form
  clear hx hy
  obtain ⟨n, hn'⟩ : ∃ n, cs.length = n := ⟨_, rfl⟩
  have HN := hid hn'
  rw [hn'] at hlc hlc2 hA hB hn ⊢
  clear hn'
  have e1 : ((n : Int) != (n : Int)) = false := by simp
  go_enter Try.func16, Try.ntmps16
  go_wp2
  go_loopw [13] (fun i wr => (∃ k : Nat, k ≤ n ∧ i = .int .i64 k) ∧ ∃ m, wr = w.drewN m) (fun i _ => n - (intOf i).toNat)
  case atStart => exact ⟨⟨0, by omega, rfl⟩, 0, rfl⟩
  case round =>
    obtain ⟨⟨k, hk, rfl⟩, m, rfl⟩ := hrel
    by_cases hlt : k < n
    · have hkl : k < cs.length := by rw [HN.out]; exact hlt
      obtain ⟨b, o, rfl, hs⟩ := hA (by omega)
      obtain ⟨b', o', rfl, hs'⟩ := hB (by omega)
      obtain ⟨c0, c1, c2⟩ := hs.c3 k hkl
      obtain ⟨d0, d1, d2⟩ := hs'.c3 k hkl
      clear hA hB hs hs' hkl
      generalize cs.getD k C3.df = c at *
      obtain ⟨xa, xb, xc⟩ := c
      simp only at c0 c1 c2 d0 d1 d2
      go_wp2
      go_quiet (fail)
      go_wp2
      go_roundw
      case rel => exact ⟨⟨k + 1, by omega, by go_num⟩, _, rfl⟩
      case measure => simp [intOf]; omega
    · go_wp2
      go_ret
      exact ⟨rfl, m, rfl⟩
end Go.Proofs.Ytioaeijogjcghaa
