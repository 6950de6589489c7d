/- The law's own helpers over lists of nodes: layNodes. -/
import Derived.Test.YtioaeijogjcghaaCki
import Derived.Laws.OwnMore
set_option linter.unusedVariables false
set_option linter.unusedSimpArgs false
set_option linter.unnecessarySimpa false
set_option maxRecDepth 20000
namespace Go.Proofs.Ytioaeijogjcghaa
open Go.RowKit

/-- append of a list that is read onto a list of the call's own, an element of sz cells -/
theorem wpList_appendNS {P : Program} {w : World} {ops : Array Oper} {rest : List Oper} {o : Oper} {a : Act} {Q : Exit → Act → World → Prop} {t : TypeId} {u v : Value} {B n m sz : Nat} {xs news : List Value}
    (hgd : o.guard = none) (s x : Operand) (ho : o.op = .call { callee := .builtin .append, args := #[s, x], argTypes := #[t, t] })
    (e : TypeId) (z : Value) (bytes : Nat) (h1 : P.underlying t = some (.slice e)) (h2 : (P.info? e).map (fun i => (i.zero, i.size, i.bytes)) = some (some z, sz, bytes)) (hz : z.cells.size = sz) (hs0 : 0 < sz)
    (hs : a.eval s = v) (hx : a.eval x = u)
    (hown : w.ownsRow B e sz v n xs) (hB : B ≤ w.heap.size) (hrd : Rd w u m sz news) (hu : ∀ y ∈ news, y.oneCell' = true) (hm : n + m ≤ maxLen) (hby : (n + m) * bytes ≤ 140737488355328)
    (hK : ∀ v' w', w'.ownsRow B e sz v' (n + m) (xs ++ news) → Below B w w' → wpList P ops Q rest (a.put o.dst v') w') :
    wpList P ops Q (o :: rest) a w := by
  refine wpList_plain hgd fun K hK' => ?_
  unfold Oper.wp execOp
  simp only [ho, resolve, invoke, builtin, Sem.run_bind, Sem.run_pure, Result.andThen_ok, List.map_toArray, List.map_cons, List.map_nil, hs, hx]
  obtain ⟨i, hi, hz0, hz1, hz2⟩ := info_parts h2
  have hlen : news.length = m * sz := hrd.1
  have hlt := hown.lt
  have main : ∀ (b : Addr) (c : Nat), u = .slice (some b) m c → (∀ j y, news[j]? = some y → w.cell? (b.add j) = some y) →
      o.upon P a K Q ((Sem.run P (Builtin.append_ #[t, t] o.type #[v, u]) w).andThen fun b w' => Result.ok (Next.value b) w') := by
    intro b c hu2 hseg
    subst hu2
    obtain ⟨v', w', hr, h3, h4, _⟩ := run_append_own (P := P) (w := w) B t o.type e i z sz bytes h1 hi hz0 hz1 hz2 hz hs0 v n xs hown
      b m c news hlen hseg hu hm hby hB
    refine upon_ok hr (hK' _ _ (hK _ _ h3 ?_))
    exact (Below.refl B w).grown h4 hB (fun k hk => (hlt k hk).1)
  rcases hrd.2 with ⟨⟨A, rfl⟩, rfl⟩ | ⟨b, o', cap, rfl, hc1, hc2, hseg⟩
  · obtain rfl : news = [] := List.eq_nil_of_length_eq_zero (by omega)
    cases A with
    | none =>
      have hr := run_append_owned_none (P := P) (w := w) B t o.type e i sz h1 hi v n xs hown
      refine upon_ok hr (hK' _ _ (hK _ _ (by simpa using hown) (Below.refl _ _)))
    | some b => exact main b 0 rfl (fun j y h => by simp at h)
  · exact main ⟨b, o', none⟩ cap rfl (fun j y h => by rw [addr_add]; exact hseg j y h)
theorem ownsS_rd {w : World} {B sz : Nat} {e : TypeId} {v : Value} {n : Nat} {cs : List Value} (h : w.ownsRow B e sz v n cs) : Rd w v n sz cs := by
  refine ⟨h.1, ?_⟩
  rcases h.2 with ⟨rfl, rfl⟩ | ⟨g, cap, cur, rfl, hb, hg, hnc, hcm, hcs, htake⟩
  · exact .inl ⟨⟨_, rfl⟩, rfl⟩
  · refine .inr ⟨g, 0, cap, rfl, hnc, hcm, ?_⟩
    intro i v hv
    have := h.cells (g := g) rfl i v hv
    rwa [addr_add] at this
theorem ownsS_below {w w' : World} {B sz : Nat} {e : TypeId} {v : Value} {n : Nat} {cs : List Value} (h : w.ownsRow B e sz v n cs) (hb : Below w.heap.size w w') : w'.ownsRow B e sz v n cs := by
  refine ⟨h.1, ?_⟩
  rcases h.2 with hn | ⟨g, cap, cur, rfl, hb', hg, r⟩
  · exact .inl hn
  · exact .inr ⟨g, cap, cur, rfl, hb', by rw [hb.block g (Array.getElem?_eq_some_iff.1 hg).1]; exact hg, r⟩
/-- the literals of the first t nodes, side by side -/
def flatA (L : List Nd) : Nat → List C3
  | 0 => []
  | t + 1 => flatA L t ++ (L.getD t Nd.df).args
theorem flatA_len (L : List Nd) (t : Nat) : (flatA L t).length = argsN L t := by
  induction t with
  | zero => rfl
  | succ t ih => simp [flatA, argsN, ih]
theorem flatA_split (L : List Nd) {k t : Nat} (h : k < t) : ∃ post, flatA L t = flatA L k ++ (L.getD k Nd.df).args ++ post := by
  induction t with
  | zero => omega
  | succ t ih =>
    by_cases e : k = t
    · subst e; exact ⟨[], by simp [flatA]⟩
    · obtain ⟨post, hp⟩ := ih (by omega)
      exact ⟨post ++ (L.getD t Nd.df).args, by rw [flatA, hp]; simp [List.append_assoc]⟩
/-- what layNodes lays behind n nodes -/
def tailN (n m : Nat) : List Nd := (List.range m).map fun j : Nat => ⟨-131 - ((n : Int) + (j : Int)), 0, [⟨true, 131 + (j : Int), ByteArray.empty⟩]⟩
theorem laid_lo (L : List Nd) (m t : Nat) (h : t < L.length) : (L ++ tailN L.length m).getD t Nd.df = L.getD t Nd.df := by
  simp [List.getD, List.getElem?_append_left h]
theorem laid_hi (L : List Nd) (m j : Nat) (h : j < m) : (L ++ tailN L.length m).getD (L.length + j) Nd.df = ⟨-131 - ((L.length : Int) + (j : Int)), 0, [⟨true, 131 + (j : Int), ByteArray.empty⟩]⟩ := by
  simp [List.getD, List.getElem?_append_right, tailN, List.getElem?_range h]
theorem argsN_lo (L : List Nd) (m t : Nat) (h : t ≤ L.length) : argsN (L ++ tailN L.length m) t = argsN L t := by
  induction t with
  | zero => rfl
  | succ t ih => rw [argsN, argsN, ih (by omega), laid_lo L m t (by omega)]
theorem argsN_hi (L : List Nd) (m j : Nat) (h : j ≤ m) : argsN (L ++ tailN L.length m) (L.length + j) = argsN L L.length + j := by
  induction j with
  | zero => exact argsN_lo L m _ (Nat.le_refl _)
  | succ j ih => rw [← Nat.add_assoc, argsN, ih (by omega), laid_hi L m j (by omega)]; simp; omega
theorem flatA_lo (L : List Nd) (m t : Nat) (h : t ≤ L.length) : flatA (L ++ tailN L.length m) t = flatA L t := by
  induction t with
  | zero => rfl
  | succ t ih => rw [flatA, flatA, ih (by omega), laid_lo L m t (by omega)]
theorem flatA_hi (L : List Nd) (m j : Nat) (h : j ≤ m) : flatA (L ++ tailN L.length m) (L.length + j) = flatA L L.length ++ tailC j := by
  induction j with
  | zero => rw [Nat.add_zero, flatA_lo L m _ (Nat.le_refl _)]; simp [tailC]
  | succ j ih => rw [← Nat.add_assoc, flatA, ih (by omega), laid_hi L m j (by omega), tailC_succ, List.append_assoc]
/-- a node as it lies in memory, its literals a part of the row gc of C cells -/
def nv (C gc : Nat) (d : Nd) (o : Nat) : List Value := [.int .i64 d.op, .int .i64 d.col, .slice (if C = o then some ⟨gc, 0, none⟩ else some ⟨gc, o * 3, none⟩) d.args.length (C - o)]
def nodeVals (C gc : Nat) (L : List Nd) (t : Nat) : List Value := (List.range t).flatMap fun i => nv C gc (L.getD i Nd.df) (argsN L i)
theorem nodeVals_succ (C gc : Nat) (L : List Nd) (t : Nat) : nodeVals C gc L (t + 1) = nodeVals C gc L t ++ nv C gc (L.getD t Nd.df) (argsN L t) := by simp [nodeVals, List.range_succ]
theorem nodeVals_len (C gc : Nat) (L : List Nd) (t : Nat) : (nodeVals C gc L t).length = t * 3 := by
  induction t with
  | zero => rfl
  | succ t ih => rw [nodeVals_succ, List.length_append, ih]; simp [nv]; omega
theorem nodeVals_get (C gc : Nat) (L : List Nd) (t k j : Nat) (hk : k < t) (hj : j < 3) : (nodeVals C gc L t)[k * 3 + j]? = (nv C gc (L.getD k Nd.df) (argsN L k))[j]? := by
  induction t with
  | zero => omega
  | succ t ih =>
    rw [nodeVals_succ]
    by_cases e : k = t
    · subst e
      rw [List.getElem?_append_right (by rw [nodeVals_len]; omega), nodeVals_len]
      congr 1; omega
    · rw [List.getElem?_append_left (by rw [nodeVals_len]; omega)]
      exact ih (by omega)
theorem row_cut3 {w : World} {gc C o : Nat} {pre mid post : List C3} (h : Row w gc 37 (cells3 (pre ++ mid ++ post))) (ho : pre.length = o) (hC : pre.length + mid.length + post.length = C) (hm : C ≤ maxLen) :
    Rd w (.slice (if C = o then some ⟨gc, 0, none⟩ else some ⟨gc, o * 3, none⟩) mid.length (C - o)) mid.length 3 (cells3 mid) := by
  refine ⟨cells3_length mid, ?_⟩
  by_cases hc : C = o
  · have e1 : mid.length = 0 := by omega
    have e2 : mid = [] := List.eq_nil_of_length_eq_zero e1
    subst e2
    left
    rw [if_pos hc, show C - o = 0 by omega]
    exact ⟨⟨_, rfl⟩, rfl⟩
  · right
    rw [if_neg hc]
    refine ⟨gc, o * 3, C - o, rfl, by omega, by omega, ?_⟩
    have hs := h.seg (o * 3) (mid.length * 3)
    rw [cells3_append, cells3_append, List.append_assoc] at hs
    have e : (cells3 pre ++ (cells3 mid ++ cells3 post)).drop (o * 3) = cells3 mid ++ cells3 post := by
      rw [← ho, ← cells3_length pre]
      exact List.drop_left
    rw [e, ← cells3_length mid, List.take_left] at hs
    exact hs
/-- the laid list can be read -/
theorem laid_ns {w : World} {g gc C : Nat} {L : List Nd} (hr : Row w g 56 (nodeVals C gc L L.length)) (hc : Row w gc 37 (cells3 (flatA L L.length))) (hC : argsN L L.length = C) (hm : C ≤ maxLen) (cap : Nat) (n : Nat) (hn : n ≤ L.length) (hnc : n ≤ cap) (hcm : cap ≤ maxLen) :
    NsIn w (.slice (some ⟨g, 0, none⟩) n cap) (L.take n) := by
  have htl : (L.take n).length = n := by simp; omega
  refine ⟨some ⟨g, 0, none⟩, cap, by rw [htl], by rw [htl]; exact hnc, hcm, fun k hk => ?_⟩
  rw [htl] at hk
  have hgd : (L.take n).getD k Nd.df = L.getD k Nd.df := by simp [List.getD, List.getElem?_take, hk]
  rw [hgd]
  have g0 := nodeVals_get C gc L L.length k 0 (by omega) (by decide)
  have g1 := nodeVals_get C gc L L.length k 1 (by omega) (by decide)
  have g2 := nodeVals_get C gc L L.length k 2 (by omega) (by decide)
  refine ⟨g, 0, .slice (if C = argsN L k then some ⟨gc, 0, none⟩ else some ⟨gc, argsN L k * 3, none⟩) (L.getD k Nd.df).args.length (C - argsN L k), rfl, ?_, ?_, ?_, ?_⟩
  · rw [hr.cell, Nat.zero_add]; exact g0
  · rw [hr.cell, Nat.zero_add]; exact g1
  · rw [hr.cell, Nat.zero_add]; exact g2
  · obtain ⟨post, hp⟩ := flatA_split L (show k < L.length by omega)
    have hlen := congrArg List.length hp
    rw [hp] at hc
    simp only [List.length_append, flatA_len] at hlen
    exact row_cut3 hc (flatA_len L k) (by rw [flatA_len]; omega) hm
end Go.Proofs.Ytioaeijogjcghaa
