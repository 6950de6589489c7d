/- Lists of cells that grow: append of one entry of three cells; the plain answer's lanesAt. -/
import Derived.Test.YtdlkdiaobbakiaaGreatDoorRefo
import Derived.Test.YtdlkdiaobbakiaaGreatDoorPay2I
set_option linter.unusedVariables false
set_option linter.unusedSimpArgs false
set_option linter.unnecessarySimpa false
set_option maxRecDepth 100000
namespace Go.Proofs.YtdlkdiaobbakiaaGreatDoor
open Go.RowKit

theorem cell_new3 (w : World) (a b c : Value) (e : TypeId) : ∀ j u, [a, b, c][j]? = some u → (w.alloc (.cells #[a, b, c] e)).cell? ((⟨w.heap.size, 0, none⟩ : Addr).add j) = some u := by
  intro j u h
  have hr : Row (w.alloc (.cells #[a, b, c] e)) w.heap.size e [a, b, c] := by unfold Row; rw [heap_alloc_new]
  rw [addr_add, hr.cell, Nat.zero_add]; exact h
theorem wpList_append3 {P : Program} {w : World} {ops : Array Oper} {rest : List Oper} {o : Oper} {a : Act} {Q : Exit → Act → World → Prop} {t : TypeId} {x y z v : Value} {B n : Nat} {xs : List Value}
    (hgd : o.guard = none) (s r : Operand) (ho : o.op = .call { callee := .builtin .append, args := #[s, r], argTypes := #[t, t] })
    (e : TypeId) (zs : List Value) (bytes : Nat) (h1 : P.underlying t = some (.slice e)) (h2 : (P.info? e).map (fun i => (i.zero, i.size, i.bytes)) = some (some (.agg zs.toArray), 3, bytes)) (hz : zs.length = 3)
    (hs : a.eval s = v) (hx : a.eval r = .slice (some ⟨w.heap.size, 0, none⟩) 1 1)
    (hown : w.ownsRow B e 3 v n xs) (hB : B ≤ w.heap.size) (hu : ∀ u ∈ [x, y, z], u.oneCell' = true) (hm : n + 1 ≤ maxLen) (hby : (n + 1) * bytes ≤ 140737488355328)
    (hK : ∀ v' w', w'.ownsRow B e 3 v' (n + 1) (xs ++ [x, y, z]) → Below B w w' → wpList P ops Q rest (a.put o.dst v') w') :
    wpList P ops Q (o :: rest) a (w.alloc (.cells #[x, y, z] e)) := by
  refine wpList_plain hgd fun K hK' => ?_
  unfold Oper.wp execOp
  simp only [ho, resolve, invoke, builtin, Sem.run_bind, Sem.run_pure, Result.andThen_ok, List.map_toArray, List.map_cons, List.map_nil, hs, hx]
  obtain ⟨i, hi, hz0, hz1, hz2⟩ := info_parts h2
  obtain ⟨v', w', hr, h3, h4, _⟩ := run_append_own (P := P) (w := w.alloc (.cells #[x, y, z] e)) B t o.type e i (.agg zs.toArray) 3 bytes h1 hi hz0 hz1 hz2 (by simpa [Value.cells] using hz) (by omega) v n xs (hown.alloc _)
    ⟨w.heap.size, 0, none⟩ 1 1 [x, y, z] rfl (cell_new3 w x y z e) hu hm hby (by simp; omega)
  have hlt := hown.lt
  refine upon_ok hr (hK' _ _ (hK _ _ h3 ?_))
  refine (((Below.refl B w).alloc hB _).grown h4 (by simp; omega) ?_)
  intro k hk; exact (hlt k hk).1
theorem owns3_form {w : World} {B : Nat} {e : TypeId} {v : Value} {n : Nat} {cs : List Value} (h : w.ownsRow B e 3 v n cs) : ∃ A cap, v = .slice A n cap := by
  rcases h.2 with ⟨rfl, rfl⟩ | ⟨g, cap, cur, rfl, _⟩
  · exact ⟨none, 0, rfl⟩
  · exact ⟨_, _, rfl⟩
theorem owns3_rd {w : World} {B : Nat} {e : TypeId} {v : Value} {n : Nat} {cs : List Value} (h : w.ownsRow B e 3 v n cs) : Rd w v n 3 cs := by
  refine ⟨h.1, ?_⟩
  rcases h.2 with ⟨rfl, rfl⟩ | ⟨g, cap, cur, rfl, hb, hg, hnc, hcm, hcs, htake⟩
  · exact .inl ⟨⟨_, rfl⟩, rfl⟩
  · refine .inr ⟨g, 0, cap, rfl, hnc, hcm, ?_⟩
    intro i v hv
    have := h.cells (g := g) rfl i v hv
    rwa [addr_add] at this
theorem owns3_below {w w' : World} {B : Nat} {e : TypeId} {v : Value} {n : Nat} {cs : List Value} (h : w.ownsRow B e 3 v n cs) (hb : Below w.heap.size w w') : w'.ownsRow B e 3 v n cs := by
  refine ⟨h.1, ?_⟩
  rcases h.2 with hn | ⟨g, cap, cur, rfl, hb', hg, r⟩
  · exact .inl hn
  · exact .inr ⟨g, cap, cur, rfl, hb', by rw [hb.block g (Array.getElem?_eq_some_iff.1 hg).1]; exact hg, r⟩

def lanesOk (wd k p : Nat) (xs : List Nat) : Bool := decide (p ≤ xs.length ∧ (xs.length - p) % 8 = 0) && okPack wd k (restW (xs.drop p))
def lanesV (wd k p : Nat) (xs : List Nat) : List Nat := if lanesOk wd k p xs = true then L.lanesL wd k (restW (xs.drop p)) else []
set_option maxHeartbeats 2000000 in
theorem lanesAt_any (v : Value) (xs : List Nat) (p wd k : Nat) (w : World) (hx : Rd w v xs.length 1 (u8s xs)) (hb : ∀ x ∈ xs, x < 256) (hl : xs.length ≤ 1048576) (hp : p ≤ 1099511627776) :
    Calls Tryz.prog 78 #[v, .int .i64 p, .int .i64 wd, .int .i64 k] w fun e w' =>
      ∃ u, e = .returned (.tuple #[u, .bool (lanesOk wd k p xs)]) ∧ w'.ownsRow w.heap.size 68 1 u (lanesV wd k p xs).length (u64s (lanesV wd k p xs)) ∧ Below w.heap.size w w' := by
  by_cases hg : p ≤ xs.length ∧ (xs.length - p) % 8 = 0
  · have hdl : (xs.drop p).length = xs.length - p := by simp
    obtain ⟨c, hc⟩ : ∃ c, (xs.length - p) / 8 = c := ⟨_, rfl⟩
    have hci : ((xs.length : Int) - (p : Int)) / 8 = (c : Int) := by omega
    have hmod2 : ((xs.length : Int) - (p : Int)) % 8 = 0 := by omega
    have hrw : numL 8 (tk (8 * c) (xs.drop p)) = restW (xs.drop p) := by unfold restW; rw [hdl, hc]
    have hno : numsOk 8 c p xs.length = true := by unfold numsOk; exact decide_eq_true ⟨hg.1, by omega⟩
    have HN := hid (numbersAt_any v xs p 8 c w hx hb hl (.inr rfl) hp (by omega))
    rw [hrw, hno] at HN
    have hwl : (restW (xs.drop p)).length ≤ 1048576 := by rw [restW_len, hdl]; omega
    have hwv : ∀ x ∈ restW (xs.drop p), x < 18446744073709551616 := by unfold restW; exact numL_lt (tk_lt (fun x h => hb x (List.mem_of_mem_drop h))) (by omega)
    have eok : lanesOk wd k p xs = okPack wd k (restW (xs.drop p)) := by unfold lanesOk; rw [decide_eq_true hg, Bool.true_and]
    have eV : lanesV wd k p xs = unpackR wd k (restW (xs.drop p)) := by unfold lanesV unpackR; rw [eok]; simp
    rw [eok, eV]
    generalize restW (xs.drop p) = ws at *
    obtain ⟨A, ca, rfl, hlc, hcm, hA⟩ := hx.form
    have hp1 : ¬ (p : Int) > (xs.length : Int) := by omega
    have HU := hid (fun (w2 : World) (u : Value) (h : Rd w2 u ws.length 1 (u64s ws)) => refUnpack_any u ws wd k w2 h hwv (by unfold maxLen; omega))
    obtain ⟨B, hB⟩ : ∃ B, w.heap.size = B := ⟨_, rfl⟩
    have HBE := hid hB
    rw [hB]
    generalize okPack wd k ws = ok at *
    generalize unpackR wd k ws = R at *
    simp only [if_pos] at HN
    clear hx hA eok eV hno hrw hwv hB hb
    go_enter Tryz.func78, Tryz.ntmps78
    go_wp2_with fail
    refine HN.out.mono ?_
    rintro e w1 ⟨u, rfl, ho, hb1⟩
    obtain ⟨A1, c1, rfl, _, _, _⟩ := owns_form ho
    have HO := hid (owns_rd ho)
    have HB1 := hid hb1
    clear ho hb1
    go_wp2_with fail
    refine (HU.out w1 _ HO.out).mono ?_
    rintro e w2 ⟨u2, rfl, ho2, hb2⟩
    have HO2 := hid (owns_mono_I ho2 (by have := HBE.out; have := HB1.out.size; omega : B ≤ w1.heap.size))
    have HB2 := hid (bthen HB1.out hb2)
    clear ho2 hb2
    go_wp2_with fail
    go_ret2
    exact ⟨_, rfl, HO2.out, by rw [← HBE.out]; exact HB2.out⟩
  · have eok : lanesOk wd k p xs = false := by unfold lanesOk; rw [decide_eq_false hg, Bool.false_and]
    have eV : lanesV wd k p xs = [] := by unfold lanesV; rw [eok]; simp
    rw [eok, eV]
    obtain ⟨A, ca, rfl, hlc, hcm, hA⟩ := hx.form
    clear hx hA eok eV
    go_enter Tryz.func78, Tryz.ntmps78
    by_cases h1 : p ≤ xs.length
    · have hp1 : ¬ (p : Int) > (xs.length : Int) := by omega
      have hne : ¬ (xs.length - p) % 8 = 0 := fun h => hg ⟨h1, h⟩
      have hmod2 : (((xs.length : Int) - (p : Int)) % 8 != 0) = true := by rw [bne_iff_ne]; omega
      go_wp2
      go_ret2
      exact ⟨_, rfl, World.ownsRow_nil _ _ _ _, brefl w⟩
    · have hp1 : (p : Int) > (xs.length : Int) := by omega
      go_wp2
      go_ret2
      exact ⟨_, rfl, World.ownsRow_nil _ _ _ _, brefl w⟩
end Go.Proofs.YtdlkdiaobbakiaaGreatDoor
