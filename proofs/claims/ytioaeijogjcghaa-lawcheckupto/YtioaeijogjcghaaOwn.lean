/- Lists that share no memory: where append leaves its answer; the law's own test of it, over lists of words. -/
import Derived.Test.YtioaeijogjcghaaLay
import Derived.Test.YtioaeijogjcghaaSpoil
import Derived.Deep.QuietTactic
set_option linter.unusedVariables false
set_option linter.unusedSimpArgs false
set_option linter.unnecessarySimpa false
set_option maxRecDepth 20000
namespace Go.Proofs.Ytioaeijogjcghaa
open Go.RowKit

/-- where append leaves its answer: in the row that it had, or in a new one, and then the old rows stand -/
theorem append_where {P : Program} {w : World} (base : Nat) (t ty e : TypeId) (i : TypeInfo) (z : Value) (size bytes : Nat) (ht : P.underlying t = some (.slice e)) (hi : P.info? e = some i) (hz : i.zero = some z)
    (hsize : i.size = size) (hby : i.bytes = bytes) (hzs : z.cells.size = size) (hsz : 0 < size)
    (v : Value) (n : Nat) (xs : List Value) (hown : w.ownsRow base e size v n xs)
    (a : Addr) (m c : Nat) (news : List Value) (hl : news.length = m * size) (hnews : ∀ j u, news[j]? = some u → w.cell? (a.add j) = some u) (h1 : ∀ u ∈ news, u.oneCell' = true)
    (h63 : n + m ≤ maxLen) (hbytes : (n + m) * bytes ≤ 140737488355328) (h0 : 0 < m) :
    ∃ v' w', (Builtin.append_ #[t, t] ty #[v, .slice (some a) m c]).run P w = .ok v' w' ∧ (v'.ownBlock = v.ownBlock ∨ (v'.ownBlock = some w.heap.size ∧ ∀ k, k < w.heap.size → w'.heap[k]? = w.heap[k]?)) := by
  subst hsize
  subst hby
  have hsmall : n + m ≤ 9223372036854775807 := by simp only [maxLen] at h63; omega
  rcases hown.2 with ⟨rfl, rfl⟩ | ⟨g, cap, cur, rfl, hbg, hg, hnc, hcm, hcs, htake⟩
  · have hr := run_append_nil (P := P) w t ty e i z ht hi hz a m c news hl hnews (by omega) (by omega) (by have hb := hbytes; simp only [Nat.zero_add] at hb; omega)
    exact ⟨_, _, hr, .inr ⟨rfl, fun k hk => heap_alloc_old w.drew _ hk⟩⟩
  · by_cases hroom : n + m ≤ cap
    · have hfit : n * i.size + news.length ≤ cur.size := by rw [hl, hcs, ← Nat.add_mul]; exact Nat.mul_le_mul_right _ hroom
      have hr := run_append_room (P := P) w t ty e i ht hi g n cap cur hg a m c news hl hnews h1 hroom hfit
      exact ⟨_, _, hr, .inl rfl⟩
    · have holds : ∀ j u, xs[j]? = some u → w.cell? ((⟨g, 0, none⟩ : Addr).add j) = some u := hown.cells (g := g) rfl
      have hr := run_append_grow (P := P) w t ty e i z ht hi hz ⟨g, 0, none⟩ n cap xs hown.1 holds a m c news hl hnews (by omega) (by omega) (growslice_fits (by omega) hbytes)
      exact ⟨_, _, hr, .inr ⟨rfl, fun k hk => heap_alloc_old w.drew _ hk⟩⟩
/-- append of one entry of one cell, and where the answer lies -/
theorem wpList_append1W {P : Program} {w : World} {ops : Array Oper} {rest : List Oper} {o : Oper} {a : Act} {Q : Exit → Act → World → Prop} {t : TypeId} {u v : Value} {B n : Nat} {xs : List Value}
    (hgd : o.guard = none) (s x : Operand) (ho : o.op = .call { callee := .builtin .append, args := #[s, x], argTypes := #[t, t] })
    (e : TypeId) (z : Value) (bytes : Nat) (h1 : P.underlying t = some (.slice e)) (h2 : (P.info? e).map (fun i => (i.zero, i.size, i.bytes)) = some (some z, 1, bytes)) (hz : z.cells = #[z])
    (hs : a.eval s = v) (hx : a.eval x = .slice (some ⟨w.heap.size, 0, none⟩) 1 1)
    (hown : w.ownsRow B e 1 v n xs) (hB : B ≤ w.heap.size) (hu : u.oneCell' = true) (hm : n + 1 ≤ maxLen) (hby : (n + 1) * bytes ≤ 140737488355328)
    (hK : ∀ v' w', w'.ownsRow B e 1 v' (n + 1) (xs ++ [u]) → Below B w w' → w.heap.size ≤ w'.heap.size → (∀ k, k < w.heap.size → some k ≠ v.ownBlock → w'.heap[k]? = w.heap[k]?) →
      (v'.ownBlock = v.ownBlock ∨ ((∀ k, v'.ownBlock = some k → w.heap.size ≤ k) ∧ ∀ k, k < w.heap.size → w'.heap[k]? = w.heap[k]?)) → wpList P ops Q rest (a.put o.dst v') w') :
    wpList P ops Q (o :: rest) a (w.alloc (.cells #[u] e)) := by
  refine wpList_plain hgd fun K hK' => ?_
  unfold Oper.wp execOp
  simp only [ho, resolve, invoke, builtin, Sem.run_bind, Sem.run_pure, Result.andThen_ok, List.map_toArray, List.map_cons, List.map_nil, hs, hx]
  obtain ⟨i, hi, hz0, hz1, hz2⟩ := info_parts h2
  have ha1 : ∀ x ∈ [u], x.oneCell' = true := by intro x hx; simp at hx; subst hx; exact hu
  obtain ⟨v', w', hr, h3, h4, _⟩ := run_append_own (P := P) (w := w.alloc (.cells #[u] e)) B t o.type e i z 1 bytes h1 hi hz0 hz1 hz2 (by rw [hz]; rfl) (by omega) v n xs (hown.alloc _)
    ⟨w.heap.size, 0, none⟩ 1 1 [u] rfl (cell_new w u e) ha1 hm hby (by simp; omega)
  obtain ⟨v2, w2, hr2, h5⟩ := append_where (P := P) (w := w.alloc (.cells #[u] e)) B t o.type e i z 1 bytes h1 hi hz0 hz1 hz2 (by rw [hz]; rfl) (by omega) v n xs (hown.alloc _)
    ⟨w.heap.size, 0, none⟩ 1 1 [u] rfl (cell_new w u e) ha1 hm hby (by omega)
  rw [hr] at hr2
  injection hr2 with e1 e2
  subst e1 e2
  have hlt := hown.lt
  refine upon_ok hr (hK' _ _ (hK _ _ h3 ?_ ?_ ?_ ?_))
  · refine (((Below.refl B w).alloc hB _).grown h4 (by simp; omega) ?_)
    intro k hk; exact (hlt k hk).1
  · have := h4.size; simp at this; omega
  · intro k hk hne
    rw [h4.block k (by simp; omega) hne]
    exact heap_alloc_old w _ hk
  · rcases h5 with h5 | ⟨h5, h6⟩
    · exact .inl h5
    · refine .inr ⟨fun k hk => ?_, fun k hk => ?_⟩
      · rw [h5] at hk; simp at hk; omega
      · rw [h6 k (by simp; omega)]; exact heap_alloc_old w _ hk
theorem Rd.keep {w w' : World} {v : Value} {n sz : Nat} {cs : List Value} (h : Rd w v n sz cs) (hk : ∀ k, v.ownBlock = some k → w'.heap[k]? = w.heap[k]?) : Rd w' v n sz cs := by
  refine ⟨h.1, ?_⟩
  rcases h.2 with h | ⟨b, o, cap, rfl, h1, h2, h3⟩
  · exact .inl h
  · refine .inr ⟨b, o, cap, rfl, h1, h2, ?_⟩
    intro i u hu
    rw [← h3 i u hu]
    exact World.cell?_of_block (hk b rfl)
theorem owns_keep {w w' : World} {B sz : Nat} {e : TypeId} {v : Value} {n : Nat} {cs : List Value} (h : w.ownsRow B e sz v n cs) (hk : ∀ k, v.ownBlock = some k → w'.heap[k]? = w.heap[k]?) : w'.ownsRow B e sz v n cs := by
  refine ⟨h.1, ?_⟩
  rcases h.2 with h | ⟨g, cap, cur, rfl, h1, h2, r⟩
  · exact .inl h
  · exact .inr ⟨g, cap, cur, rfl, h1, by rw [hk g rfl]; exact h2, r⟩
theorem Rd.at {w : World} {A : Option Addr} {n m sz cap : Nat} {cs : List Value} (h : Rd w (.slice A n cap) m sz cs) (h0 : 0 < m) : ∃ b o, A = some ⟨b, o, none⟩ ∧ Seg w b o cs := by
  rcases h.2 with ⟨_, rfl⟩ | ⟨b, o, cap', he, _, _, hs⟩
  · exact absurd h0 (Nat.lt_irrefl 0)
  · injection he with e1 e2 e3
    exact ⟨b, o, e1, hs⟩
def mk (i : Nat) : Value := .int .u64 ((18446744073709551615 - (501 + i) : Nat) : Int)
def marked (i n : Nat) : List Value := List.replicate n (mk i)
theorem marked_snoc (i n : Nat) : marked i n ++ [mk i] = marked i (n + 1) := by simp [marked, List.replicate_succ']
theorem marked_get (i n t : Nat) (h : t < n) : (marked i n)[t]? = some (mk i) := by simp [marked, List.getElem?_replicate, h]
/-- a list keeps its marks when what it shares a row with grows -/
theorem keep_marked {w w' : World} {B u t m cd : Nat} {D : Option Addr} {e : TypeId} {v' : Value} (hD : ∀ k, (Value.slice D u cd).ownBlock = some k → D = some ⟨k, 0, none⟩) (hr : Rd w (.slice D u cd) u 1 (marked t u))
    (ho : w'.ownsRow B e 1 v' m (marked t m)) (hum : u ≤ m) (hk : ∀ k, (Value.slice D u cd).ownBlock = some k → v'.ownBlock = some k ∨ w'.heap[k]? = w.heap[k]?) : Rd w' (.slice D u cd) u 1 (marked t u) := by
  refine ⟨hr.1, ?_⟩
  rcases hr.2 with h | ⟨b, o, cap, he, h1, h2, h3⟩
  · exact .inl h
  · injection he with e1 e2 e3
    subst e1
    subst e3
    have h0 := hD b rfl
    injection h0 with h0
    injection h0 with _ ho0
    subst ho0
    refine .inr ⟨b, 0, cd, rfl, h1, h2, ?_⟩
    intro i x hx
    rcases hk b rfl with hb | hb
    · obtain ⟨A, c', rfl, _, _, hl, hf⟩ := owns_form ho
      have hi : i < u := by
        rcases Nat.lt_or_ge i u with h | h
        · exact h
        · rw [List.getElem?_eq_none (by simp [marked]; exact h)] at hx; cases hx
      obtain ⟨g, rfl, _, _, hc, _⟩ := hf (by omega)
      simp [Value.ownBlock] at hb
      subst hb
      rw [Nat.zero_add, hc i (by omega), marked_get t m i (by omega)]
      rw [marked_get t u i hi] at hx
      exact hx
    · rw [← h3 i x hx]
      exact World.cell?_of_block hb
theorem owns_first {w : World} {B n cd : Nat} {D : Option Addr} {e : TypeId} {xs : List Value} (h : w.ownsRow B e 1 (.slice D n cd) n xs) : ∀ k, (Value.slice D n cd).ownBlock = some k → D = some ⟨k, 0, none⟩ := by
  intro k hk
  rcases h.2 with ⟨he, _⟩ | ⟨g, cap, cur, he, _⟩
  · injection he with e1 e2 e3
    subst e1; simp [Value.ownBlock] at hk
  · injection he with e1 e2 e3
    subst e1; simp [Value.ownBlock] at hk; subst hk; rfl
/-- how many entries the test puts behind each of n lists -/
def shareN (r : Int) (n : Nat) : Nat := if 0 < n ∧ 65536 / n < clipN r then 65536 / n else clipN r
theorem shareN_le (r : Int) (n : Nat) : shareN r n ≤ 1024 := by have := clipN_le r; unfold shareN; split <;> omega
end Go.Proofs.Ytioaeijogjcghaa
