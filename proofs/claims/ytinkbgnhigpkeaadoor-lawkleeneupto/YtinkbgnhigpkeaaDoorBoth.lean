/- append of a list that is read onto a list of the call's own; copyWords; what Dense makes of Indexes. -/
import Derived.Test.YtinkbgnhigpkeaaDoorRefExpand
import Derived.Test.YtinkbgnhigpkeaaDoorSpoil
import Derived.Laws.OwnMore
set_option linter.unusedVariables false
set_option linter.unusedSimpArgs false
set_option linter.unnecessarySimpa false
namespace Go.Proofs.YtinkbgnhigpkeaaDoor
open Go.RowKit

theorem wpList_appendN {P : Program} {w : World} {ops : Array Oper} {rest : List Oper} {o : Oper} {a : Act} {Q : Exit → Act → World → Prop} {t : TypeId} {u v : Value} {B n m : Nat} {xs news : List Value}
    (hgd : o.guard = none) (s x : Operand) (ho : o.op = .call { callee := .builtin .append, args := #[s, x], argTypes := #[t, t] })
    (e : TypeId) (z : Value) (bytes : Nat) (h1 : P.underlying t = some (.slice e)) (h2 : (P.info? e).map (fun i => (i.zero, i.size, i.bytes)) = some (some z, 1, bytes)) (hz : z.cells = #[z])
    (hs : a.eval s = v) (hx : a.eval x = u)
    (hown : w.ownsRow B e 1 v n xs) (hB : B ≤ w.heap.size) (hrd : Rd w u m 1 news) (hu : ∀ y ∈ news, y.oneCell' = true) (hm : n + m ≤ maxLen) (hby : (n + m) * bytes ≤ 140737488355328)
    (hK : ∀ v' w', w'.ownsRow B e 1 v' (n + m) (xs ++ news) → Below B w w' → wpList P ops Q rest (a.put o.dst v') w') :
    wpList P ops Q (o :: rest) a w := by
  refine wpList_plain hgd fun K hK' => ?_
  unfold Oper.wp execOp
  simp only [ho, resolve, invoke, builtin, Sem.run_bind, Sem.run_pure, Result.andThen_ok, List.map_toArray, List.map_cons, List.map_nil, hs, hx]
  obtain ⟨i, hi, hz0, hz1, hz2⟩ := info_parts h2
  have hlen : news.length = m := by have := hrd.1; omega
  have hlt := hown.lt
  have main : ∀ (b : Addr) (c : Nat), u = .slice (some b) m c → (∀ j y, news[j]? = some y → w.cell? (b.add j) = some y) →
      o.upon P a K Q ((Sem.run P (Builtin.append_ #[t, t] o.type #[v, u]) w).andThen fun b w' => Result.ok (Next.value b) w') := by
    intro b c hu2 hseg
    subst hu2
    obtain ⟨v', w', hr, h3, h4, _⟩ := run_append_own (P := P) (w := w) B t o.type e i z 1 bytes h1 hi hz0 hz1 hz2 (by rw [hz]; rfl) (by omega) v n xs hown
      b m c news (by omega) hseg hu hm hby hB
    refine upon_ok hr (hK' _ _ (hK _ _ h3 ?_))
    exact (Below.refl B w).grown h4 hB (fun k hk => (hlt k hk).1)
  rcases hrd.2 with ⟨⟨A, rfl⟩, rfl⟩ | ⟨b, o', cap, rfl, hc1, hc2, hseg⟩
  · obtain rfl : news = [] := List.eq_nil_of_length_eq_zero hlen
    cases A with
    | none =>
      have hr := run_append_owned_none (P := P) (w := w) B t o.type e i 1 h1 hi v n xs hown
      refine upon_ok hr (hK' _ _ (hK _ _ (by simpa using hown) (Below.refl _ _)))
    | some b => exact main b 0 rfl (fun j y h => by simp at h)
  · exact main ⟨b, o', none⟩ cap rfl (fun j y h => by rw [addr_add]; exact hseg j y h)

set_option maxHeartbeats 1000000 in
theorem copyWords_any (v : Value) (xs : List Nat) (w : World) (hx : Rd w v xs.length 1 (u64s xs)) (hl : xs.length ≤ 1048576) :
    Calls Tryd.prog 12 #[v] w fun e w' => ∃ r, e = .returned r ∧ w'.ownsRow w.heap.size 55 1 r xs.length (u64s xs) ∧ Below w.heap.size w w' := by
  have HX := hid hx
  clear hx
  go_enter Tryd.func12, Tryd.ntmps12
  have hown : (w.alloc (.cells #[] 55)).ownsRow w.heap.size 55 1 (.slice (some ⟨w.heap.size, 0, none⟩) 0 0) 0 [] :=
    ⟨rfl, .inr ⟨w.heap.size, 0, #[], rfl, Nat.le_refl _, heap_alloc_new _ _, Nat.le_refl _, Nat.zero_le _, by simp, by simp⟩⟩
  have HOWN := hid hown
  have HB := hid ((Below.refl w.heap.size w).alloc (Nat.le_refl _) (.cells #[] 55))
  clear hown
  go_wp2_with (at_builtin; refine wpList_appendN rfl (.tmp 3) (.tmp 4) rfl 55 (.int .u64 0) 8 Tryd.underlying22 Tryd.info45 rfl rfl rfl HOWN.out HB.out.size (HX.out.mono HB.out) (oneCell_u64s xs) (by unfold maxLen; omega) (by omega) ?_; intro v' w' ho hb)
  go_ret
  exact ⟨_, rfl, by simpa using ho, HB.out.trans hb⟩

theorem asc_of (n : Int) : ∀ (l : List Nat) (least : Int), l.Pairwise (· < ·) → (∀ p ∈ l, least ≤ (p : Int) ∧ (p : Int) < n) → ascB n least (l.map fun p : Nat => (p : Int)) = true
  | [], _, _, _ => rfl
  | q :: l, least, hp, h => by
    rw [List.pairwise_cons] at hp
    have h1 := h q List.mem_cons_self
    rw [List.map_cons, ascB, asc_of n l ((q : Int) + 1) hp.2 (fun p hpl => ⟨by have := hp.1 p hpl; omega, (h p (List.mem_cons_of_mem _ hpl)).2⟩)]
    simp [h1.1, h1.2]
theorem mem_idxN (xs : List Nat) (m j : Nat) : ((j : Int) ∈ (idxN xs m).map fun p : Nat => (p : Int)) ↔ j < m ∧ bitOf xs j = true := by
  rw [List.mem_map]
  constructor
  · rintro ⟨p, hp, he⟩
    obtain rfl : p = j := by omega
    unfold idxN at hp
    rw [List.mem_filter, List.mem_range] at hp
    exact hp
  · rintro ⟨h1, h2⟩
    refine ⟨j, ?_, rfl⟩
    unfold idxN
    rw [List.mem_filter, List.mem_range]
    exact ⟨h1, h2⟩
/-- Dense of Indexes is the bitmap -/
theorem dense_idx (n : Int) (xs : List Nat) (h : okPack 1 n xs = true) : denseOk n ((idxR n xs).map fun p : Nat => (p : Int)) = true ∧ denseR n ((idxR n xs).map fun p : Nat => (p : Int)) = xs := by
  have hnn : 0 ≤ n ∧ n ≤ 65536 := by
    refine Decidable.byContradiction fun hc => ?_
    rw [okPack_not _ (by omega)] at h; cases h
  obtain ⟨m, rfl⟩ := Int.eq_ofNat_of_zero_le hnn.1
  have hip := (okPack_nat (wd := 1) (n := m) xs (by decide) (by omega)).1 h
  rw [idxR, if_pos h, Int.toNat_natCast]
  have hasc : ascB (m : Int) 0 ((idxN xs m).map fun p : Nat => (p : Int)) = true := by
    refine asc_of _ _ _ ((List.pairwise_lt_range).filter _) (fun p hp => ?_)
    unfold idxN at hp
    rw [List.mem_filter, List.mem_range] at hp
    omega
  have hok : denseOk (m : Int) ((idxN xs m).map fun p : Nat => (p : Int)) = true := by
    unfold denseOk; rw [hasc]; simp; omega
  refine ⟨hok, ?_⟩
  rw [denseR, if_pos hok, Int.toNat_natCast]
  refine (dense_bm m _ xs hip.1 (isPack_lt hip) hasc (fun j => ?_)).symm
  by_cases hj : j < m
  · cases hb : bitOf xs j
    · symm; rw [decide_eq_false_iff_not, mem_idxN]; simp [hb]
    · symm; rw [decide_eq_true_iff, mem_idxN]; exact ⟨hj, hb⟩
  · rw [isPack_beyond hip j (by omega)]
    symm; rw [decide_eq_false_iff_not, mem_idxN]; omega
end Go.Proofs.YtinkbgnhigpkeaaDoor
