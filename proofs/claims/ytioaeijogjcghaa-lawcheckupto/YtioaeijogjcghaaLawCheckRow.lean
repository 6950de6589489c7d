/- LawCheck, where what it reads is of bulk at most 1048576: it returns true, and every argument reads afterwards as it read before. -/
import Derived.Test.YtioaeijogjcghaaRows
import Derived.Test.YtioaeijogjcghaaLawCheck
import Derived.Test.YtioaeijogjcghaaOpenQ
import Derived.OpenShut
import Derived.ShutString
import Derived.ChangeOld
set_option linter.unusedVariables false
set_option linter.unusedSimpArgs false
namespace Go.Proofs.Ytioaeijogjcghaa.lawCheck
open Go.ChangeShapes Go.WideShapes Go.ChangeAt Go.RowKit

theorem own : ownKnob Try.prog.godebug = none := by kernel_rfl
theorem laidOut : laidOutB Try.prog = true := by kernel_rfl
theorem one_le {H : Type} (d : DataW H) : 1 ≤ Rows.uptoBulk d := by
  cases d with
  | lit l => cases l <;> simp [Rows.uptoBulk]
  | nil => simp [Rows.uptoBulk]
  | ptr d => simp [Rows.uptoBulk]
  | slice elems spare => simp [Rows.uptoBulk]
  | agg parts => simp [Rows.uptoBulk]
  | iface t d => simp [Rows.uptoBulk]
  | map entries => simp [Rows.uptoBulk]
  | held h => simp [Rows.uptoBulk]
theorem all_ge {H : Type} (l : List (DataW H)) : l.length ≤ Rows.uptoBulkAll l := by
  induction l with
  | nil => simp
  | cons x r ih => have := one_le x; simp only [Rows.uptoBulkAll, List.length_cons]; omega
theorem mem_le {H : Type} (d : DataW H) : ∀ l : List (DataW H), d ∈ l → Rows.uptoBulk d ≤ Rows.uptoBulkAll l
  | [], h => by cases h
  | x :: r, h => by
    simp only [Rows.uptoBulkAll]
    rcases List.mem_cons.1 h with rfl | h
    · omega
    · have := mem_le d r h; omega
/-- the bound on the bulk gives the length of each list -/
theorem bulk_reach {H : Type} {α : Type} {ds : List (DataW H)} {d : DataW H} {xs : List α} (h : Rows.uptoSmall H ds = true) (hd : d ∈ ds) (hs : xs = [] ∨ ∃ elems sp, d = .slice elems sp ∧ elems.length = xs.length) : xs.length ≤ 1048576 := by
  rcases hs with rfl | ⟨elems, sp, rfl, hl⟩
  · simp
  · have h1 := mem_le _ _ hd
    have h2 := all_ge elems
    simp only [Rows.uptoBulk] at h1
    simp only [Rows.uptoSmall, decide_eq_true_eq] at h
    omega

theorem all_snoc {H : Type} (l : List (DataW H)) (d : DataW H) : Rows.uptoBulkAll (l ++ [d]) = Rows.uptoBulkAll l + Rows.uptoBulk d := by
  induction l with
  | nil => simp [Rows.uptoBulkAll]
  | cons x l ih => simp only [List.cons_append, Rows.uptoBulkAll, ih]; omega
theorem args_bulk {H : Type} (L : List Nd) (D : Nat → DataW H) (hD : ∀ i, i < L.length → ∃ d0 d1 z, D i = .agg [d0, d1, z] ∧ ((L.getD i Nd.df).args = [] ∨ ∃ elems sp, z = .slice elems sp ∧ elems.length = (L.getD i Nd.df).args.length)) :
    ∀ t, t ≤ L.length → argsN L t ≤ Rows.uptoBulkAll ((List.range t).map D)
  | 0, _ => Nat.zero_le _
  | t + 1, h => by
    have ih := args_bulk L D hD t (by omega)
    rw [List.range_succ, List.map_append, List.map_cons, List.map_nil, all_snoc, argsN]
    obtain ⟨d0, d1, z, h1, h2⟩ := hD t (by omega)
    rw [h1]
    simp only [Rows.uptoBulk, Rows.uptoBulkAll]
    rcases h2 with h2 | ⟨elems, sp, rfl, h2⟩
    · rw [h2]; simp; omega
    · have := all_ge elems
      simp only [Rows.uptoBulk]
      omega
/-- a query that came in by value -/
theorem open_query {H : Type} {enc : TypeId × Value → H} {w : World} {base b0 : Nat} {held : Bool} {r : Reach} {v : Value} {d : DataW H} {p : List MemPlace}
    (hv : Value.okWide Try.prog w r b0 26 v) (h : DataW.Trod enc Try.prog w base (fun _ => true) held 26 v d p) (hb : Rows.uptoBulk d ≤ 1048576) :
    ∃ (wv cv av : Value) (L : List Nd) (cs : List Int) (gs : List Ag), v = .agg #[wv, cv, av] ∧ NsIn w wv L ∧ Rd w cv cs.length 1 (i64s cs) ∧ Rd w av gs.length 2 (ags gs) ∧ L.length ≤ 1048576 ∧ argsN L L.length ≤ 1048576 ∧ cs.length ≤ 1048576 ∧ gs.length ≤ 1048576 := by
  obtain ⟨cl, rfl, hsz⟩ := okWide_struct Try.underlying26 hv
  obtain ⟨fuel, hf⟩ := h
  obtain ⟨xs, k, hk, hxy, _, hxl, hf'⟩ := DataW.trod_struct Try.underlying26 hf
  have hl : cl.toList.length = 3 := by rw [Array.length_toList]; exact hsz.trans (by kernel_rfl)
  obtain ⟨cl⟩ := cl
  simp only at hl
  match xs, hxl, cl, hl with
  | [y0, y1, y2], _, [v0, v1, v2], _ =>
    have e0 : DataW.trod enc Try.prog w base (fun _ => true) held k 23 (([v0, v1, v2].drop 0).take (Try.prog.cellsOf 23)) = some y0 := hf' 0 _ rfl
    have e1 : DataW.trod enc Try.prog w base (fun _ => true) held k 22 (([v0, v1, v2].drop 1).take (Try.prog.cellsOf 22)) = some y1 := hf' 1 _ rfl
    have e2 : DataW.trod enc Try.prog w base (fun _ => true) held k 24 (([v0, v1, v2].drop 2).take (Try.prog.cellsOf 24)) = some y2 := hf' 2 _ rfl
    rw [show Try.prog.cellsOf 23 = 1 by kernel_rfl] at e0
    rw [show Try.prog.cellsOf 22 = 1 by kernel_rfl] at e1
    rw [show Try.prog.cellsOf 24 = 1 by kernel_rfl] at e2
    simp only [List.drop_zero, List.drop_succ_cons, List.take_succ_cons, List.take_zero] at e0 e1 e2
    have sl : ∀ {t e : TypeId} {y : DataW H × List MemPlace} {u : Value}, Try.prog.underlying t = some (.slice e) → DataW.trod enc Try.prog w base (fun _ => true) held k t [u] = some y → ∃ A n c, u = .slice A n c := by
      intro t e y u ht h
      rcases Go.Deep.open_slice ht h with ⟨h, _⟩ | ⟨a, len, cap, _, _, _, _, h, _⟩
      · simp at h; exact ⟨_, _, _, h⟩
      · simp at h; exact ⟨_, _, _, h⟩
    obtain ⟨A0, n0, c0, rfl⟩ := sl Try.underlying23 e0
    obtain ⟨A1, n1, c1, rfl⟩ := sl Try.underlying22 e1
    obtain ⟨A2, n2, c2, rfl⟩ := sl Try.underlying24 e2
    obtain ⟨L, rfl, rl, sl⟩ := open_nodes (enc := enc) (w := w) (base := base) (held := held) (a := A0) (len := n0) (cap := c0) Try.underlying23 Try.underlying56 (by kernel_rfl) (by kernel_rfl) Try.underlying3 Try.underlying3 Try.underlying34 Try.underlying37 (by kernel_rfl) (by kernel_rfl) Try.underlying4 Try.underlying2 Try.underlying9 ⟨k, by simpa [Value.cells] using e0⟩
    obtain ⟨cs, lc, rc, _, sc⟩ := open_ints_rd (enc := enc) (w := w) (base := base) (held := held) (a := A1) (len := n1) (cap := c1) Try.underlying22 Try.underlying3 (by kernel_rfl) ⟨k, by simpa [Value.cells] using e1⟩
    obtain ⟨gs, lg, rg, sg⟩ := open_aggs (enc := enc) (w := w) (base := base) (held := held) (a := A2) (len := n2) (cap := c2) Try.underlying24 Try.underlying48 (by kernel_rfl) (by kernel_rfl) Try.underlying3 Try.underlying3 ⟨k, by simpa [Value.cells] using e2⟩
    have hd := congrArg Prod.fst hxy
    simp at hd
    rw [hd] at hb
    simp only [Rows.uptoBulk, Rows.uptoBulkAll] at hb
    refine ⟨_, _, _, L, cs, gs, rfl, rl, rc, rg, ?_, ?_, ?_, ?_⟩
    · rcases sl with rfl | ⟨D, sp, h1, _⟩
      · simp
      · rw [h1] at hb
        have := all_ge ((List.range L.length).map D)
        simp only [Rows.uptoBulk, List.length_map, List.length_range] at hb this
        omega
    · rcases sl with rfl | ⟨D, sp, h1, h2⟩
      · simp [argsN]
      · rw [h1] at hb
        have := args_bulk L D h2 L.length (Nat.le_refl _)
        simp only [Rows.uptoBulk] at hb
        omega
    · rcases sc with rfl | ⟨elems, sp, h1, h2⟩
      · simp
      · rw [h1] at hb
        have := all_ge elems
        simp only [Rows.uptoBulk] at hb
        omega
    · rcases sg with rfl | ⟨elems, sp, h1, h2⟩
      · simp
      · rw [h1] at hb
        have := all_ge elems
        simp only [Rows.uptoBulk] at hb
        omega
theorem contract (H : Type) (enc : TypeId × Value → H) (W : World) (base : Nat) (args : Array Value) (ds gs : List (DataW H)) (before : List MemPlace)
    (hval0 : ∀ (j : Nat) t v, Try.f3.params[j]? = some t → args[j]? = some v → Value.okWide Try.prog W .any base t v)
    (hW : DataW.Whole enc Try.prog Try.f3.params.toList Rows.lawCheckSpec.vars false W args.toList ds gs before)
    (hup : Rows.uptoSmall H (ds ++ gs) = true) :
    Calls Try.prog 3 args W fun e W' => ∃ v, e = .returned v ∧ Rows.lawCheckSpec.post enc Try.prog Try.f3 false true false false W args v W' := by
  have hval : ∀ (j : Nat) t v, Try.f3.params[j]? = some t → args[j]? = some v → Value.okWide Try.prog W .any base t v := hval0
  have hW' := hW
  obtain ⟨p, q, hA0, hV, rfl, hfz, hnd⟩ := hW
  have hA : DataW.TrodAll enc Try.prog W 0 (fun _ => true) true Try.f3.params.toList args.toList ds p := hA0
  rw [Try.params3] at hA hval
  obtain ⟨v0, vs0, d0, ds0, p0, q0, hargs, rfl, rfl, h0, r0⟩ := trodAll_cons hA
  obtain ⟨v1, vs1, d1, ds1, p1, q1, rfl, rfl, rfl, h1, r1⟩ := trodAll_cons r0
  obtain ⟨v2, vs2, d2, ds2, p2, q2, rfl, rfl, rfl, h2, r2⟩ := trodAll_cons r1
  obtain ⟨rfl, rfl, rfl⟩ := trodAll_nil r2
  obtain rfl : args = #[v0, v1, v2] := by cases args; simp_all
  obtain ⟨rfl, rfl⟩ := trodVars_none hV
  obtain ⟨a0, len0, cap0, rfl⟩ := okWide_slice Try.underlying22 (hval 0 22 v0 rfl rfl)
  have k0 := h0
  have lt0 : ∀ x ∈ p0, x.block < W.heap.size := by obtain ⟨m, hm⟩ := k0; exact DataW.trod_lt m _ _ _ hm
  obtain ⟨ks, lk, rk, _, sk⟩ := open_ints_rd Try.underlying22 Try.underlying3 (by kernel_rfl) h0
  have n0 := bulk_reach hup (by simp) sk
  have k1 := h1
  have lt1 : ∀ x ∈ p1, x.block < W.heap.size := by obtain ⟨m, hm⟩ := k1; exact DataW.trod_lt m _ _ _ hm
  have hb1 : Rows.uptoBulk d1 ≤ 1048576 := by
    have h3 := mem_le d1 ([d0, d1, d2] ++ []) (by simp)
    simp only [Rows.uptoSmall, decide_eq_true_eq] at hup
    simp only [List.append_nil, List.cons_append, List.nil_append] at h3 hup
    omega
  obtain ⟨wv, cv, av, L, cs, gs, rfl, rn, rc, rg, n1, n2, n3, n4⟩ := open_query (hval 1 26 v1 rfl rfl) h1 hb1
  obtain ⟨a2, rfl, rfl, rfl, w2⟩ := open_int Try.underlying3 (hval 2 3 v2 rfl rfl) h2
  clear hA0 hval0
  refine (lawCheck_walk _ wv cv av ks L cs gs a2 W rk rn rc rg n0 n1 n2 n3 n4).mono fun e W' ⟨he, bel⟩ => ?_
  subst he
  exact ⟨_, rfl, _, _, _, [], _, [], hW', trodAll_mk1 (shut_bool Try.underlying4 _), (trodAll_cons_mk (Below.trod laidOut (by kernel_rfl) (of_decide_eq_true (by kernel_rfl)) k0 bel lt0) (trodAll_cons_mk (Below.trod laidOut (by kernel_rfl) (of_decide_eq_true (by kernel_rfl)) k1 bel lt1) (trodAll_cons_mk (shut_int Try.underlying3 w2) trodAll_mk0))), rfl, bel.frame _, fun h => by cases h⟩

set_option maxRecDepth 100000 in
theorem lifted (os : Os) (started : os.Started) (H : Type) (enc : TypeId × Value → H) (F : Stop.Interp) :
    ReturnsInHanded {} Try.checked os 3 .any ((Rows.OpenSpec.upto Rows.lawCheckSpec).pre6 enc Try.prog Try.f3 Rows.lawCheckUptoRow.domain false) (((Rows.OpenSpec.upto Rows.lawCheckSpec).at F).post enc Try.prog Try.f3 false true false false) := by
  refine returnsInHanded_of_cond (C := Try.checked) (s := Rows.OpenSpec.upto Rows.lawCheckSpec) (k := Rows.uptoSmall) rfl own started (by kernel_rfl) Try.func3
    (OpenSpec.witness (enc := enc) (C := Try.checked) (s := Rows.OpenSpec.upto Rows.lawCheckSpec) (k := Rows.uptoSmall) rfl false ⟨#[], #[.slice none 0 0, .agg #[.slice none 0 0, .slice none 0 0, .slice none 0 0], .int .i64 0], []⟩ 8 (by kernel_rfl) (by kernel_rfl) (by kernel_rfl)
      (x := ([.nil, .agg [.nil, .nil, .nil], .lit (.int .i64 0)], [], [])) (by kernel_rfl) rfl (by kernel_rfl)) ?_
  intro W base args ds gs before hval hW _ hk _
  exact contract H enc W base args ds gs before hval hW hk

theorem over : Rows.lawCheckUptoRow.holds Try.pinned (Rows.OpenSpec.upto Rows.lawCheckSpec) :=
  OpenClaim.holds_of_cond 3 Try.f3 rfl rfl rfl rfl rfl rfl rfl ⟨rfl, rfl, rfl, rfl, rfl⟩ rfl rfl rfl rfl rfl (by kernel_rfl) Try.func3 (by kernel_rfl)
    (of_decide_eq_true (by kernel_rfl)) (by unfold Func.isWrapper; first | (rw [if_pos (by decide +kernel)]; kernel_rfl) | (rw [if_neg (by decide +kernel)]; exact ⟨rfl, rfl⟩))
    (fun os started H enc _ F => lifted os started H enc F)

theorem proved : Rows.LawCheckUptoSaid := over
#print axioms proved
end Go.Proofs.Ytioaeijogjcghaa.lawCheck
