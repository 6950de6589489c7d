/- LawKernel's walk. -/
import Derived.Test.YthonbfojpbfmgaaGreatDoorLawkerneluptoB27
import Derived.Test.YthonbfojpbfmgaaGreatDoorLawkerneluptoB0
import Derived.Test.YthonbfojpbfmgaaGreatDoorLawkerneluptoB1
import Derived.Test.YthonbfojpbfmgaaGreatDoorLawkerneluptoB8
import Derived.SliceStrings
import Derived.Deep.Grids
import Derived.Deep.Slices
import Derived.OpenShut
set_option linter.unusedVariables false
set_option linter.unusedSimpArgs false
set_option linter.unnecessarySimpa false
set_option maxRecDepth 100000
namespace Go.Proofs.YthonbfojpbfmgaaGreatDoor
open Go.RowKit

theorem empty_nil : ByteArray.empty.toList.isEmpty = true := by decide +kernel
theorem ofK_nul9 (k : Int) (hk : isKind k = true) : ofK k ⟨true, 0, ByteArray.empty⟩ = true := by
  unfold ofK
  simp only [if_true, hk, empty_nil, decide_true, Bool.and_self]
theorem ofK_int (x : Int) : ofK 1 ⟨false, x, ByteArray.empty⟩ = true := by
  unfold ofK
  simp only [Bool.false_eq_true, if_false, if_true, empty_nil]
theorem clip_le (s : ByteArray) : (clipS s).size ≤ 1024 ∧ (clipS s).size ≤ s.size := by
  unfold clipS
  split
  · rw [ByteArray.size_extract]; omega
  · omega
theorem ofK_str (s : ByteArray) (h : s.size ≤ 1024) : ofK 2 ⟨false, 0, s⟩ = true := by
  unfold ofK
  simp only [Bool.false_eq_true, if_false]
  rw [if_neg (by decide), decide_eq_true_eq]
  exact ⟨trivial, trivial, h⟩
theorem intC_ok (xs : List Int) (ns : List Bool) (n : Nat) : (intC xs ns n).all (ofK 1) = true := by
  rw [List.all_eq_true]
  intro c hc
  unfold intC at hc
  obtain ⟨i, _, rfl⟩ := List.mem_map.1 hc
  split
  · exact ofK_nul9 1 (by decide)
  · exact ofK_int _
theorem strC_ok (xs : List ByteArray) (ns : List Bool) (n : Nat) : (strC xs ns n).all (ofK 2) = true := by
  rw [List.all_eq_true]
  intro c hc
  unfold strC at hc
  obtain ⟨i, _, rfl⟩ := List.mem_map.1 hc
  split
  · exact ofK_nul9 2 (by decide)
  · exact ofK_str _ (clip_le _).1
theorem okI_zero : okI 0 := by unfold okI; omega
theorem intC_okI {xs : List Int} (h : ∀ x ∈ xs, okI x) (ns : List Bool) (n : Nat) : ∀ c ∈ intC xs ns n, okI c.i := by
  intro c hc
  unfold intC at hc
  obtain ⟨i, _, rfl⟩ := List.mem_map.1 hc
  split
  · exact okI_zero
  · simp only
    by_cases hi : i < xs.length
    · exact h _ (by simp [List.getD, hi])
    · rw [show xs.getD i 0 = 0 by simp [List.getD, List.getElem?_eq_none (show xs.length ≤ i by omega)]]
      exact okI_zero
theorem strC_okI (xs : List ByteArray) (ns : List Bool) (n : Nat) : ∀ c ∈ strC xs ns n, okI c.i := by
  intro c hc
  unfold strC at hc
  obtain ⟨i, _, rfl⟩ := List.mem_map.1 hc
  split
  · exact okI_zero
  · exact okI_zero
theorem valsT_le (cs : List C3) (h : ∀ c ∈ cs, c.s = ByteArray.empty) : sumT (valsOf cs) = 0 := by
  induction cs with
  | nil => rfl
  | cons c r ih =>
    have h1 := ih (fun x hx => h x (List.mem_cons_of_mem _ hx))
    have h2 := h c (List.mem_cons_self ..)
    rw [show c :: r = [c] ++ r from rfl]
    unfold valsOf at h1 ⊢
    rw [List.filter_append, List.map_append, sumT_append, h1]
    cases hn : c.n <;> simp [hn, sumT, sumS, h2]
theorem intC_sum (xs : List Int) (ns : List Bool) (n : Nat) : sumT (valsOf (intC xs ns n)) = 0 := by
  refine valsT_le _ (fun c hc => ?_)
  unfold intC at hc
  obtain ⟨i, _, rfl⟩ := List.mem_map.1 hc
  split <;> rfl
theorem strC_sum (xs : List ByteArray) (ns : List Bool) : ∀ n, n ≤ xs.length → sumT (valsOf (strC xs ns n)) ≤ sumS (xs.take n)
  | 0, _ => by simp [strC, valsOf, sumT, sumS]
  | n + 1, h => by
    have ih := strC_sum xs ns n (by omega)
    have e : strC xs ns (n + 1) = strC xs ns n ++ [if nlAt ns n = true then ⟨true, 0, ByteArray.empty⟩ else ⟨false, 0, clipS (xs.getD n ByteArray.empty)⟩] := by
      unfold strC; rw [List.range_succ, List.map_append]; rfl
    have e2 : sumS (xs.take (n + 1)) = sumS (xs.take n) + (xs.getD n ByteArray.empty).size := by
      rw [List.take_succ_eq_append_getElem (show n < xs.length by omega)]
      unfold sumS
      rw [List.map_append, List.sum_append]
      simp [List.getD, show n < xs.length by omega]
    have hcl := (clip_le (xs.getD n ByteArray.empty)).2
    rw [e, e2, valsOf_snoc, sumT_append]
    cases nlAt ns n
    · simp only [Bool.false_eq_true, if_false]
      have : sumT [((0 : Int), clipS (xs.getD n ByteArray.empty))] = (clipS (xs.getD n ByteArray.empty)).size := by simp [sumT, sumS]
      omega
    · simp only [if_true]
      have : sumT [] = 0 := rfl
      omega
theorem sumS_take (xs : List ByteArray) (n : Nat) : sumS (xs.take n) ≤ sumS xs := by
  conv => rhs; rw [← List.take_append_drop n xs]
  unfold sumS
  rw [List.map_append, List.sum_append]
  omega
theorem isVal_int (x : Int) : isVal 1 ⟨false, x, ByteArray.empty⟩ = true := by unfold isVal; rw [ofK_int]; rfl
theorem isVal_str (s : ByteArray) (h : s.size ≤ 1024) : isVal 2 ⟨false, 0, s⟩ = true := by unfold isVal; rw [ofK_str s h]; rfl
set_option maxHeartbeats 8000000 in
theorem lawKernel_walk (u1 u2 u3 : Value) (xs : List Int) (ts : List ByteArray) (ns : List Bool) (pick op a b : Int) (s u : ByteArray) (w : World) (hT : Tab w) (h1 : Rd w u1 xs.length 1 (i64s xs)) (h2 : Rd w u2 ts.length 1 (strs ts)) (h3 : Rd w u3 ns.length 1 (bools ns))
    (hxI : ∀ x ∈ xs, okI x) (hai : okI a) (hbi : okI b) (hts : sumS ts ≤ 1048576) :
    Calls Tryz.prog 6 #[u1, u2, u3, .int .i64 pick, .int .i64 op, .int .i64 a, .int .i64 b, .string s, .string u] w fun e w' => e = .returned (.bool true) ∧ Below w.heap.size w w' := by
  have HIC := hid (fun (w2 : World) (h : Below w.heap.size w w2) => intCells_any u1 u3 xs ns w2 (h1.mono h) (h3.mono h))
  have HSC := hid (fun (w2 : World) (h : Below w.heap.size w w2) => strCells_any u2 u3 ts ns w2 (h2.mono h) (h3.mono h))
  have hn1 : min xs.length 65536 ≤ 65536 := by omega
  have hn2 : min ts.length 65536 ≤ 65536 ∧ min ts.length 65536 ≤ ts.length := by omega
  generalize min xs.length 65536 = n1 at *
  generalize min ts.length 65536 = n2 at *
  have HTB := hid (fun (w2 : World) (h : Below w.heap.size w w2) => hT.mono h hT.lt)
  have HA0 := hid (fun (w2 : World) (h : Below w.heap.size w w2) (v : Value) (hv : Rd w2 v [(⟨false, a, ByteArray.empty⟩ : C3)].length 3 (cells3 [(⟨false, a, ByteArray.empty⟩ : C3)])) =>
    asked_any 1 1 0 v [⟨false, a, ByteArray.empty⟩] ⟨false, a, ByteArray.empty⟩ ⟨false, 0, ByteArray.empty⟩ w2 (HTB.out w2 h) hv (by decide) (by omega) (by simp) (by simp [ofK_int]) (by intro x hx; simp at hx; subst hx; exact hai) (by rw [valsT_le _ (by intro c hc; simp at hc; subst hc; rfl)]; omega) (isVal_int _) (isVal_int _) hai okI_zero)
  have HA1 := hid (fun (ho : 1 ≤ op ∧ op ≤ 8) (pk : Nat) (w2 : World) (h : Below w.heap.size w w2) (v : Value) (hv : Rd w2 v (intC xs ns n1).length 3 (cells3 (intC xs ns n1))) =>
    asked_any 1 op pk v (intC xs ns n1) ⟨false, a, ByteArray.empty⟩ ⟨false, b, ByteArray.empty⟩ w2 (HTB.out w2 h) hv (by decide) ho (by rw [intC_len]; exact hn1) (intC_ok xs ns n1) (intC_okI hxI ns n1) (by rw [intC_sum]; omega) (isVal_int _) (isVal_int _) hai hbi)
  have HA2 := hid (fun (ho : 1 ≤ op ∧ op ≤ 8) (pk : Nat) (w2 : World) (h : Below w.heap.size w w2) (v : Value) (hv : Rd w2 v (strC ts ns n2).length 3 (cells3 (strC ts ns n2))) =>
    asked_any 2 op pk v (strC ts ns n2) ⟨false, 0, clipS s⟩ ⟨false, 0, clipS u⟩ w2 (HTB.out w2 h) hv (by decide) ho (by rw [strC_len]; exact hn2.1) (strC_ok ts ns n2) (strC_okI ts ns n2) (by have := strC_sum ts ns n2 hn2.2; have := sumS_take ts n2; omega) (isVal_str _ (clip_le _).1) (isVal_str _ (clip_le _).1) okI_zero okI_zero)
  rw [intC_len] at HA1
  rw [strC_len] at HA2
  unfold C3.v at HA0 HA1 HA2
  simp only at HA0 HA1 HA2
  obtain ⟨A1, c1, rfl, _, _, _⟩ := h1.form
  obtain ⟨A2, c2, rfl, _, _, _⟩ := h2.form
  obtain ⟨A3, c3, rfl, _, _, _⟩ := h3.form
  clear hT h1 h2 h3 hxI hai hbi hts hn1 hn2 HTB
  generalize cells3 (intC xs ns n1) = X1 at *
  generalize cells3 (strC ts ns n2) = X2 at *
  generalize xs.length = xn at *
  generalize ts.length = tn at *
  generalize ns.length = nn at *
  by_cases hg : 1 ≤ op ∧ op ≤ 8 ∧ 0 ≤ pick
  rotate_left
  · go_enter Tryz.func6, Tryz.ntmps6
    have HBN := hid ((brefl w).alloc (Nat.le_refl _) (.cells #[.bool false, .int .i64 a, .string ByteArray.empty] 42))
    have hrow : Row (w.alloc (.cells #[.bool false, .int .i64 a, .string ByteArray.empty] 42)) w.heap.size 42 (cells3 [(⟨false, a, ByteArray.empty⟩ : C3)]) := by
      have e : cells3 [(⟨false, a, ByteArray.empty⟩ : C3)] = [.bool false, .int .i64 a, .string ByteArray.empty] := rfl
      rw [e]; unfold Row; rw [heap_alloc_new]
    have HAS := hid (HA0.out _ HBN.out _ (row_rd3 hrow (by unfold maxLen; simp)))
    clear hrow HA0 HA1 HA2 HIC HSC
    have hcase : op < 1 ∨ (1 ≤ op ∧ 8 < op) ∨ (1 ≤ op ∧ op ≤ 8 ∧ pick < 0) := by omega
    rcases hcase with h | ⟨ha, h⟩ | ⟨ha, hb, h⟩
    · go_wp2_with (go_at_call 24; refine HAS.out.mono ?_; rintro e w2 ⟨rfl, hb2⟩; have HB2 := hid (bthen HBN.out hb2); clear hb2)
      go_ret
      exact ⟨rfl, HB2.out⟩
    · have g1 : ¬ op < 1 := by omega
      go_wp2_with (go_at_call 24; refine HAS.out.mono ?_; rintro e w2 ⟨rfl, hb2⟩; have HB2 := hid (bthen HBN.out hb2); clear hb2)
      go_ret
      exact ⟨rfl, HB2.out⟩
    · have g1 : ¬ op < 1 := by omega
      have g2 : ¬ 8 < op := by omega
      go_wp2_with (go_at_call 24; refine HAS.out.mono ?_; rintro e w2 ⟨rfl, hb2⟩; have HB2 := hid (bthen HBN.out hb2); clear hb2)
      go_ret
      exact ⟨rfl, HB2.out⟩
  · obtain ⟨o1, o2, hp⟩ := hg
    obtain ⟨pk, rfl⟩ := Int.eq_ofNat_of_zero_le hp
    have g1 : ¬ op < 1 := by omega
    have g2 : ¬ 8 < op := by omega
    have g3 : ¬ (pk : Int) < 0 := by omega
    have HA1p := hid (HA1.out ⟨o1, o2⟩ pk)
    have HA2p := hid (HA2.out ⟨o1, o2⟩ pk)
    clear HA0 HA1 HA2 hp
    go_enter Tryz.func6, Tryz.ntmps6
    go_upto_if 38 with fail
    go_cut [7, 38] from 39 to 40 (fun s7 s38 wc => s7 = .string (clipS s) ∧ (∃ v38 : Value, s38 = v38) ∧ wc = w)
    case first =>
      by_cases hbig : 1024 < s.size
      · have hc : clipS s = s.extract 0 1024 := by unfold clipS; rw [if_pos hbig]
        have hbi : (1024 : Int) < (s.size : Int) := by omega
        have hb3 : (1024 : Int) ≤ (s.size : Int) := by omega
        go_wp2_with fail
        go_meet
        exact ⟨by rw [hc], ⟨_, rfl⟩, rfl⟩
      · have hc : clipS s = s := by unfold clipS; rw [if_neg hbig]
        have hbi : ¬ (1024 : Int) < (s.size : Int) := by omega
        go_wp2_with fail
        go_meet
        exact ⟨by rw [hc], ⟨_, rfl⟩, rfl⟩
    case rest =>
    obtain ⟨rfl, ⟨_, rfl⟩, hw⟩ := hcut
    replace hw := hw.symm
    subst hw
    go_upto_if 43 with fail
    go_cut [8, 43] from 44 to 45 (fun s8 s43 wc => s8 = .string (clipS u) ∧ (∃ v43 : Value, s43 = v43) ∧ wc = w)
    case first =>
      by_cases hbig : 1024 < u.size
      · have hc : clipS u = u.extract 0 1024 := by unfold clipS; rw [if_pos hbig]
        have hbi : (1024 : Int) < (u.size : Int) := by omega
        have hb3 : (1024 : Int) ≤ (u.size : Int) := by omega
        go_wp2_with fail
        go_meet
        exact ⟨by rw [hc], ⟨_, rfl⟩, rfl⟩
      · have hc : clipS u = u := by unfold clipS; rw [if_neg hbig]
        have hbi : ¬ (1024 : Int) < (u.size : Int) := by omega
        go_wp2_with fail
        go_meet
        exact ⟨by rw [hc], ⟨_, rfl⟩, rfl⟩
    case rest =>
    obtain ⟨rfl, ⟨_, rfl⟩, hw⟩ := hcut
    replace hw := hw.symm
    subst hw
    generalize clipS s = s' at *
    generalize clipS u = u' at *
    go_wp2_with (first
      | (go_at_call 21; refine (HIC.out _ (brefl w)).mono ?_; rintro e w2 ⟨r2, rfl, ho2, hb2⟩; have HR2 := hid (owns3_rd ho2); have HB2 := hid hb2; obtain ⟨D2, d2, rfl⟩ := owns3_form ho2; clear ho2 hb2)
      | (go_at_call_of 24 (Value.int IntKind.i64 1); refine (HA1p.out _ HB2.out _ HR2.out).mono ?_; rintro e w3 ⟨rfl, hb3⟩; have HB3 := hid (bthen HB2.out hb3); clear hb3)
      | (go_at_call 25; refine (HSC.out _ HB3.out).mono ?_; rintro e w4 ⟨r4, rfl, ho4, hb4⟩; have HR4 := hid (owns3_rd ho4); have HB4 := hid (bthen HB3.out hb4); obtain ⟨D4, d4, rfl⟩ := owns3_form ho4; clear ho4 hb4)
      | (go_at_call 24; refine (HA2p.out _ HB4.out _ HR4.out).mono ?_; rintro e w5 ⟨rfl, hb5⟩; have HB5 := hid (bthen HB4.out hb5); clear hb5))
    go_ret
    exact ⟨rfl, HB5.out⟩
end Go.Proofs.YthonbfojpbfmgaaGreatDoor

/- From the row's hypotheses to lists of strings and of bools. -/
set_option maxRecDepth 512
set_option linter.unusedVariables false
set_option linter.unusedSimpArgs false
set_option linter.unnecessarySimpa false
namespace Go.Proofs.YthonbfojpbfmgaaGreatDoor
open Go.RowKit

/-- a string as the reading bears it -/
def litS {H : Type} (s : ByteArray) : DataW H := .lit (.string s.data.toList)
theorem spot_none {w : World} {y : Addr} {v : Value} (h : w.cell? (y.add 0) = some v) : y.spot = none := by
  simp only [Addr.add, if_true, World.cell?] at h
  split at h
  · split at h
    · cases h
    · rename_i hs; simpa using hs
  · cases h
/-- a slice of strings that came in, as the walks want it -/
theorem open_strs_rd {H : Type} {enc : TypeId × Value → H} {P : Program} {w : World} {base : Nat} {held : Bool} {t e : TypeId} {a : Option Addr} {len cap : Nat} {x : DataW H × List MemPlace}
    (ht : P.underlying t = some (.slice e)) (he : P.underlying e = some .string) (hc : P.cellsOf e = 1) (h : ∃ fuel, DataW.trod enc P w base (fun _ => true) held fuel t (Value.slice a len cap).cells.toList = some x) :
    ∃ ss : List ByteArray, Rd w (.slice a len cap) ss.length 1 (strs ss) ∧ (ss = [] ∨ ∃ sp, x.1 = .slice (ss.map litS) sp) := by
  obtain ⟨fuel, hf⟩ := h
  rcases Go.ChangeShapes.open_strings ht he hc hf with ⟨hcs, _⟩ | ⟨y, l, c, ss, hcs, _, hl, hm, hz, hx, hcell, _⟩
  · simp [Value.cells] at hcs
    obtain ⟨rfl, rfl, rfl⟩ := hcs
    exact ⟨[], ⟨rfl, .inl ⟨⟨_, rfl⟩, rfl⟩⟩, .inl rfl⟩
  · simp [Value.cells] at hcs
    obtain ⟨rfl, rfl, rfl⟩ := hcs
    simp only [if_true] at hz
    have hlen : (ss.take len).length = len := by rw [List.length_take]; omega
    refine ⟨ss.take len, ?_, .inr ⟨_, by rw [hx]; rfl⟩⟩
    rw [hlen]
    refine ⟨by simp [strs]; omega, ?_⟩
    by_cases hzc : ss.length = 0
    · have h0 : len = 0 := by omega
      have h1 : cap = 0 := by omega
      subst h0 h1
      exact .inl ⟨⟨_, rfl⟩, by simp [strs]⟩
    · have hsp := spot_none (hcell 0 (by omega))
      obtain ⟨b, o, s⟩ := y
      simp only at hsp
      subst hsp
      refine .inr ⟨b, o, cap, rfl, hl, hm, ?_⟩
      intro i v hv
      have hi : i < len := by
        rcases Nat.lt_or_ge i len with h | h
        · exact h
        · rw [List.getElem?_eq_none (by simp [strs]; omega)] at hv; cases hv
      have := hcell i (by omega)
      rw [addr_add] at this
      rw [this, ← hv]
      simp [strs, List.getElem?_map, List.getElem?_take, hi, List.getElem?_eq_getElem (show i < ss.length by omega)]
/-- a slice of bools that came in, as the walks want it -/
theorem open_bools_rd {H : Type} {enc : TypeId × Value → H} {P : Program} {w : World} {base : Nat} {held : Bool} {t e : TypeId} {a : Option Addr} {len cap : Nat} {x : DataW H × List MemPlace}
    (ht : P.underlying t = some (.slice e)) (he : P.underlying e = some .bool) (hc : P.cellsOf e = 1) (h : ∃ fuel, DataW.trod enc P w base (fun _ => true) held fuel t (Value.slice a len cap).cells.toList = some x) :
    ∃ bl : List Bool, Rd w (.slice a len cap) bl.length 1 (bools bl) ∧ (bl = [] ∨ ∃ elems sp, x.1 = .slice elems sp ∧ elems.length = bl.length) := by
  obtain ⟨fuel, hf⟩ := h
  rcases Go.Deep.open_bools ht he hc hf with ⟨hcs, _⟩ | ⟨y, l, c, B, hcs, _, hl, hm, hx, hcell⟩
  · simp [Value.cells] at hcs
    obtain ⟨rfl, rfl, rfl⟩ := hcs
    exact ⟨[], ⟨rfl, .inl ⟨⟨_, rfl⟩, rfl⟩⟩, .inl rfl⟩
  · simp [Value.cells] at hcs
    obtain ⟨rfl, rfl, rfl⟩ := hcs
    have hlen : ((List.range len).map B).length = len := by simp
    refine ⟨(List.range len).map B, ?_, .inr ⟨(List.range len).map fun i => .lit (.bool (B i)), _, by rw [hx]; rfl, by simp⟩⟩
    rw [hlen]
    refine ⟨by simp [bools], ?_⟩
    by_cases hzc : cap = 0
    · have h0 : len = 0 := by omega
      subst h0 hzc
      exact .inl ⟨⟨_, rfl⟩, by simp [bools]⟩
    · have hsp := spot_none (hcell 0 (by omega))
      obtain ⟨b, o, s⟩ := y
      simp only at hsp
      subst hsp
      refine .inr ⟨b, o, cap, rfl, hl, hm, ?_⟩
      intro i v hv
      have hi : i < len := by
        rcases Nat.lt_or_ge i len with h | h
        · exact h
        · rw [List.getElem?_eq_none (by simp [bools]; omega)] at hv; cases hv
      have := hcell i (by omega)
      rw [addr_add] at this
      rw [this, ← hv]
      simp [bools, List.getElem?_map, hi]
end Go.Proofs.YthonbfojpbfmgaaGreatDoor

/- From the row's hypotheses to lists of words. -/
set_option maxRecDepth 512
set_option linter.unusedVariables false
set_option linter.unusedSimpArgs false
set_option linter.unnecessarySimpa false
namespace Go.Proofs.YthonbfojpbfmgaaGreatDoor
open Go.RowKit

end Go.Proofs.YthonbfojpbfmgaaGreatDoor
