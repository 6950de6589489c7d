/- The plain answer: Encode. -/
import Derived.Test.YthonbfojpbfmgaaGreatDoorLawfoldsplitB17
import Derived.Test.YthonbfojpbfmgaaGreatDoorLawfoldsplitB11
import Derived.Test.YthonbfojpbfmgaaGreatDoorLawfoldsplitB3
import Derived.Test.YthonbfojpbfmgaaGreatDoorLawfoldsplitB4
import Derived.Test.YthonbfojpbfmgaaGreatDoorLawfoldsplitB10
set_option linter.unusedVariables false
set_option linter.unusedSimpArgs false
set_option linter.unnecessarySimpa false
set_option maxRecDepth 100000
namespace Go.Proofs.YthonbfojpbfmgaaGreatDoor
open Go.RowKit

theorem wpList_appendM {P : Program} {w : World} {ops : Array Oper} {rest : List Oper} {o : Oper} {a : Act} {Q : Exit → Act → World → Prop} {t : TypeId} {u v : Value} {B n m : Nat} {xs news : List Value}
    (hgd : o.guard = none) (s x : Operand) (ho : o.op = .call { callee := .builtin .append, args := #[s, x], argTypes := #[t, t] })
    (e : TypeId) (z : Value) (bytes : Nat) (h1 : P.underlying t = some (.slice e)) (h2 : (P.info? e).map (fun i => (i.zero, i.size, i.bytes)) = some (some z, 1, bytes)) (hz : z.cells = #[z])
    (hs : a.eval s = v) (hx : a.eval x = u)
    (hown : w.ownsRow B e 1 v n xs) (hB : B ≤ w.heap.size) (hrd : Rd w u m 1 news) (hu : ∀ y ∈ news, y.oneCell' = true) (hm : n + m ≤ maxLen) (hby : (n + m) * bytes ≤ 140737488355328)
    (hK : ∀ v' w', w'.ownsRow B e 1 v' (n + m) (xs ++ news) → Below B w w' → wpList P ops Q rest (a.put o.dst v') w') :
    wpList P ops Q (o :: rest) a w := by
  refine wpList_plain hgd fun K hK' => ?_
  unfold Oper.wp execOp
  simp only [ho, resolve, invoke, builtin, Sem.run_bind, Sem.run_pure, Result.andThen_ok, List.map_toArray, List.map_cons, List.map_nil, hs, hx]
  obtain ⟨i, hi, hz0, hz1, hz2⟩ := info_parts h2
  have hlen : news.length = m := by have := hrd.1; omega
  have hlt := hown.lt
  have main : ∀ (b : Addr) (c : Nat), u = .slice (some b) m c → (∀ j y, news[j]? = some y → w.cell? (b.add j) = some y) →
      o.upon P a K Q ((Sem.run P (Builtin.append_ #[t, t] o.type #[v, u]) w).andThen fun b w' => Result.ok (Next.value b) w') := by
    intro b c hu2 hseg
    subst hu2
    obtain ⟨v', w', hr, h3, h4, _⟩ := run_append_own (P := P) (w := w) B t o.type e i z 1 bytes h1 hi hz0 hz1 hz2 (by rw [hz]; rfl) (by omega) v n xs hown
      b m c news (by omega) hseg hu hm hby hB
    refine upon_ok hr (hK' _ _ (hK _ _ h3 ?_))
    exact (Below.refl B w).grown h4 hB (fun k hk => (hlt k hk).1)
  rcases hrd.2 with ⟨⟨A, rfl⟩, rfl⟩ | ⟨b, o', cap, rfl, hc1, hc2, hseg⟩
  · obtain rfl : news = [] := List.eq_nil_of_length_eq_zero hlen
    cases A with
    | none =>
      have hr := run_append_owned_none (P := P) (w := w) B t o.type e i 1 h1 hi v n xs hown
      refine upon_ok hr (hK' _ _ (hK _ _ (by simpa using hown) (Below.refl _ _)))
    | some b => exact main b 0 rfl (fun j y h => by simp at h)
  · exact main ⟨b, o', none⟩ cap rfl (fun j y h => by rw [addr_add]; exact hseg j y h)

def encBad (k c wd : Int) (cs : List C3) : Bool := !(isCodec k c && isWd c wd) || decide (65536 < cs.length) || !(cs.all (ofK k))
def encCode (k c wd : Int) (cs : List C3) : Int := if encBad k c wd cs = true then 5 else if payOk c.toNat wd (valsOf cs) = true then 0 else 4
def encB (k c wd : Int) (cs : List C3) : List Nat := ([c.toNat, (payW c.toNat wd (valsOf cs)).toNat] ++ le8 (bmL (cs.map C3.n))) ++ payB k.toNat c.toNat wd (valsOf cs)
def EncAns (w w' : World) (e : Ending) (code : Int) (bs : List Nat) : Prop := ∃ r, e = .returned (.tuple #[r, .int .i64 code]) ∧ ((∃ A n c, r = .slice A n c) ∧ (code ≠ 0 → r = .slice none 0 0)) ∧ (code = 0 → OwnB w.heap.size w' r bs) ∧ Below w.heap.size w w'
theorem encAns_no {w w' : World} {code n : Int} {bs : List Nat} (hc : code = n) (h0 : n ≠ 0) (hb : Below w.heap.size w w') : EncAns w w' (.returned (.tuple #[.slice none 0 0, .int .i64 n])) code bs :=
  ⟨_, by rw [hc], ⟨⟨_, _, _, rfl⟩, fun _ => rfl⟩, fun h => absurd (hc.symm.trans h) h0, hb⟩
theorem runsB_len (kd : Nat) (vs : List PV) (hl : vs.length ≤ 1048576) (hs : sumT vs ≤ 67108864) : (runsB kd vs).length ≤ 79691780 := by
  unfold runsB
  have h1 := runEndsL_len vs vs.length
  have h2 := listB_len kd (runHeads vs vs.length) (by rw [runHeads_len]; omega) (Nat.le_trans (runHeads_sum vs) hs)
  rw [List.length_append, List.length_append, leN_length, le4N_len]
  omega
theorem payB_len (kd code : Nat) (wd : Int) (vs : List PV) (hl : vs.length ≤ 1048576) (hs : sumT vs ≤ 67108864) (hsd : sumT (diffP vs) ≤ 67108864) : (payB kd code wd vs).length ≤ 1099511627776 := by
  have hd := diffP_len vs
  unfold payB
  split
  · have h1 := listB_len kd (diffP vs) (by omega) hsd
    have h2 := packR_le (needN (diffP vs).length : Nat) (lanesD vs) (by unfold lanesD; rw [List.length_map]; exact hl)
    unfold dictB; rw [List.length_append, List.length_append, leN_length, le8_len]
    omega
  · split
    · have := runsB_len kd vs hl hs; omega
    · split
      · have h2 := packR_le wd (lanesF (toU (minP vs).1) vs) (by unfold lanesF; rw [List.length_map]; exact hl)
        unfold frameB; rw [List.length_append, leN_length, le8_len]; omega
      · split
        · have h2 := packR_le wd (lanesK vs) (by unfold lanesK; rw [List.length_map]; exact hl)
          unfold packedB; rw [le8_len]; omega
        · have := listB_len kd vs hl hs; omega
theorem payW_nat (k c wd : Int) (vs : List PV) (h : (isCodec k c && isWd c wd) = true) : ∃ pw : Nat, payW c.toNat wd vs = pw ∧ pw ≤ 64 := by
  have hd := needN_le512 (diffP vs).length (by have := diffP_len vs; omega)
  have hw := (Bool.and_eq_true _ _ ▸ h).2
  unfold isWd at hw
  unfold payW
  split
  · exact ⟨_, rfl, by omega⟩
  · split
    · rename_i h2 h3
      rw [if_pos (by omega)] at hw
      simp only [decide_eq_true_eq] at hw
      exact ⟨wd.toNat, by omega, by omega⟩
    · exact ⟨0, rfl, by omega⟩
theorem isCodec_nat (k c wd : Int) (h : (isCodec k c && isWd c wd) = true) : ∃ kd cn : Nat, k = kd ∧ c = cn ∧ (kd = 1 ∨ kd = 2) ∧ 1 ≤ cn ∧ cn ≤ 5 := by
  have hc := (Bool.and_eq_true _ _ ▸ h).1
  unfold isCodec at hc
  split at hc
  · unfold isKind at hc
    simp only [decide_eq_true_eq] at hc
    exact ⟨k.toNat, c.toNat, by omega, by omega, by omega, by omega, by omega⟩
  · simp only [decide_eq_true_eq] at hc
    exact ⟨k.toNat, c.toNat, by omega, by omega, by omega, by omega, by omega⟩
theorem own_two (w : World) (a b : Value) : (w.alloc (.cells #[a, b] 5)).ownsRow w.heap.size 5 1 (.slice (some ⟨w.heap.size, 0, none⟩) 2 2) 2 [a, b] :=
  ⟨rfl, .inr ⟨w.heap.size, 2, #[a, b], rfl, Nat.le_refl _, heap_alloc_new _ _, Nat.le_refl _, by unfold maxLen; omega, rfl, rfl⟩⟩
end Go.Proofs.YthonbfojpbfmgaaGreatDoor

/- Mathematics of the round trip: numbers, lists, lanes, read where they were put. -/
set_option linter.unusedVariables false
set_option linter.unusedSimpArgs false
set_option linter.unnecessarySimpa false
set_option maxRecDepth 100000
namespace Go.Proofs.YthonbfojpbfmgaaGreatDoor
open Go.RowKit

theorem p64 : (2 : Nat) ^ (8 * 8) = 18446744073709551616 := by decide
theorem p32 : (2 : Nat) ^ (8 * 4) = 4294967296 := by decide
theorem wordOf_leN (n : Nat) : ∀ k, L.wordOf 8 (leN k n) = n % 2 ^ (8 * k) := by
  intro k
  induction k with
  | zero => simp [leN, L.wordOf, Nat.mod_one]
  | succ k ih =>
    rw [leN_succ, L.wordOf_snoc, ih, leN_length, Nat.mul_succ, Nat.pow_add, Nat.mod_mul, show (2 : Nat) ^ 8 = 256 from rfl]
    congr 1
    exact Nat.mul_comm _ _
theorem wordOf_leN_lt {k n : Nat} (h : n < 2 ^ (8 * k)) : L.wordOf 8 (leN k n) = n := by rw [wordOf_leN, Nat.mod_eq_of_lt h]
theorem flat_drop (k : Nat) (xs : List Nat) : ∀ i, (xs.flatMap (leN k)).drop (k * i) = (xs.drop i).flatMap (leN k) := by
  induction xs with
  | nil => intro i; simp
  | cons x r ih =>
    intro i
    cases i with
    | zero => simp
    | succ i =>
      rw [List.flatMap_cons, List.drop_succ_cons, ← ih i, Nat.mul_succ, Nat.add_comm, ← List.drop_drop]
      congr 1
      exact List.drop_left' (leN_length k x)
theorem numL_flat (k : Nat) (hk : 0 < k) (xs : List Nat) (hx : ∀ x ∈ xs, x < 2 ^ (8 * k)) : numL k (xs.flatMap (leN k)) = xs := by
  have hl : (xs.flatMap (leN k)).length = k * xs.length := flatMap_len _ k (leN_length k) xs
  apply List.ext_getElem
  · rw [numL_length, hl, Nat.mul_div_cancel_left _ hk]
  · intro i h1 h2
    simp only [numL, List.getElem_map, List.getElem_range]
    rw [flat_drop, List.drop_eq_getElem_cons h2, List.flatMap_cons, List.take_left' (leN_length k _)]
    exact wordOf_leN_lt (hx _ (List.getElem_mem h2))
theorem tk_app (n : Nat) (a b : List Nat) (h : a.length = n) : tk n (a ++ b) = a := by
  unfold tk; rw [if_pos (by rw [List.length_append]; omega), List.take_left' h]
theorem drop_app {xs a b : List Nat} {p n : Nat} (h : xs.drop p = a ++ b) (ha : a.length = n) : xs.drop (p + n) = b := by
  rw [← List.drop_drop, h, List.drop_left' ha]
theorem len_of_drop {xs ys : List Nat} {p : Nat} (hp : p ≤ xs.length) (h : xs.drop p = ys) : xs.length = p + ys.length := by
  have := congrArg List.length h; rw [List.length_drop] at this; omega
theorem num_at {xs b : List Nat} {p k n : Nat} (hp : p ≤ xs.length) (h : xs.drop p = leN k n ++ b) (hn : n < 2 ^ (8 * k)) : numOk k p xs.length = true ∧ L.wordOf 8 ((xs.drop p).take k) = n := by
  have hl := len_of_drop hp h
  rw [List.length_append, leN_length] at hl
  refine ⟨?_, ?_⟩
  · unfold numOk; exact decide_eq_true (by omega)
  · rw [h, List.take_left' (leN_length k n), wordOf_leN_lt hn]
theorem nums_at {xs b ns : List Nat} {p k : Nat} (hk : 0 < k) (hp : p ≤ xs.length) (h : xs.drop p = ns.flatMap (leN k) ++ b) (hn : ∀ x ∈ ns, x < 2 ^ (8 * k)) : numsOk k ns.length p xs.length = true ∧ numL k (tk (k * ns.length) (xs.drop p)) = ns := by
  have hf : (ns.flatMap (leN k)).length = k * ns.length := flatMap_len _ k (leN_length k) ns
  have hl := len_of_drop hp h
  rw [List.length_append, hf] at hl
  refine ⟨?_, ?_⟩
  · unfold numsOk; exact decide_eq_true (by omega)
  · rw [h, tk_app _ _ _ hf, numL_flat k hk ns hn]
theorem restW_le8 (ws : List Nat) (h : ∀ x ∈ ws, x < 18446744073709551616) : restW (le8 ws) = ws := by
  have hl := le8_len ws
  unfold restW
  rw [hl, Nat.mul_div_cancel_left _ (by decide)]
  have h1 : tk (8 * ws.length) (le8 ws) = le8 ws := by
    have := tk_app (8 * ws.length) (le8 ws) [] hl; rwa [List.append_nil] at this
  rw [h1]
  exact numL_flat 8 (by decide) ws (fun x hx => by rw [p64]; exact h x hx)
theorem lanes_at {xs ls : List Nat} {p wd : Nat} (hp : p ≤ xs.length) (h : xs.drop p = le8 (packR (wd : Nat) ls)) (hok : okVals (wd : Nat) ls = true) : lanesOk wd ls.length p xs = true ∧ lanesV wd ls.length p xs = ls := by
  obtain ⟨h1, h2⟩ := (okVals_iff _ _).1 hok
  have hw : wd ≤ 64 := by omega
  rw [Int.toNat_natCast] at h2
  have hpk : packR (wd : Nat) ls = L.packL wd ls := by unfold packR; rw [if_pos hok, Int.toNat_natCast]
  have hr : restW (xs.drop p) = L.packL wd ls := by rw [h, restW_le8 _ (packR_lt64 _ _), hpk]
  have hl := len_of_drop hp h
  rw [le8_len] at hl
  have h3 : lanesOk wd ls.length p xs = true := by
    unfold lanesOk
    rw [hr, (okPack_nat _ hw h1.2.2).2 (L.pack_isPack hw ls h2), decide_eq_true (by omega)]; rfl
  refine ⟨h3, ?_⟩
  unfold lanesV
  rw [if_pos h3, hr, L.lanes_pack hw ls h2]
/-- a value that fits 64 bits -/
def okI (x : Int) : Prop := -9223372036854775808 ≤ x ∧ x ≤ 9223372036854775807
theorem sgn_toU {x : Int} (h : okI x) : sgn64 (toU x) = x := by
  unfold okI at h
  unfold sgn64 wrap64 toU
  omega
theorem ofBytes_sbs (s : ByteArray) : ofBytes (sbs s) = s := by
  unfold ofBytes sbs
  apply ByteArray.ext
  rw [List.map_map]
  have : s.data.toList.map (UInt8.ofNat ∘ UInt8.toNat) = s.data.toList := by
    rw [List.map_congr_left (g := id) (fun x _ => by simp), List.map_id]
  rw [this]
def endsFrom (a : Nat) : List ByteArray → List Nat
  | [] => []
  | s :: r => (a + s.size) :: endsFrom (a + s.size) r
theorem endsFrom_len (ss : List ByteArray) : ∀ a, (endsFrom a ss).length = ss.length := by
  induction ss with
  | nil => intro a; rfl
  | cons s r ih => intro a; simp [endsFrom, ih]
theorem endsFrom_get (ss : List ByteArray) : ∀ a i, (h : i < ss.length) → (endsFrom a ss)[i]'(by rw [endsFrom_len]; exact h) = a + sumS (ss.take (i + 1)) := by
  induction ss with
  | nil => intro a i h; exact absurd h (Nat.not_lt_zero _)
  | cons s r ih =>
    intro a i h
    cases i with
    | zero => simp [endsFrom, sumS]
    | succ i =>
      simp only [endsFrom, List.getElem_cons_succ]
      rw [ih (a + s.size) i (by simpa using h)]
      simp [sumS]; omega
theorem endsL_from (ss : List ByteArray) : endsL ss = endsFrom 0 ss := by
  apply List.ext_getElem
  · rw [endsL_len, endsFrom_len]
  · intro i h1 h2
    rw [endsFrom_get ss 0 i (by rwa [endsL_len] at h1)]
    simp [endsL]
theorem nI_cons (x : Nat) (xs : List Nat) : nI (x :: xs) = (x : Int) :: nI xs := rfl
theorem textEnd_from (ss : List ByteArray) (h : ∀ s ∈ ss, s.size ≤ 1024) : ∀ a : Nat, textEnd a (nI (endsFrom a ss)) = some ((a + sumS ss : Nat) : Int) := by
  induction ss with
  | nil => intro a; simp [endsFrom, nI, textEnd, sumS]
  | cons s r ih =>
    intro a
    have hs := h s List.mem_cons_self
    simp only [endsFrom, nI_cons, textEnd]
    rw [if_neg (by omega), ih (fun x hx => h x (List.mem_cons_of_mem _ hx)) (a + s.size)]
    simp [sumS]; omega
theorem cutS_from (ss : List ByteArray) : ∀ (a : Nat) (t b : List Nat), t.drop a = textB ss ++ b → cutS a t (nI (endsFrom a ss)) = ss := by
  induction ss with
  | nil => intro a t b _; rfl
  | cons s r ih =>
    intro a t b h
    simp only [endsFrom, nI_cons, cutS]
    have e1 : (a : Int).toNat = a := by omega
    have e2 : (((a + s.size : Nat) : Int) - (a : Int)).toNat = s.size := by omega
    have h2 : textB (s :: r) = sbs s ++ textB r := by simp [textB]
    rw [h2, List.append_assoc] at h
    rw [e1, e2, h, List.take_left' (sbs_length s), ofBytes_sbs]
    congr 1
    exact ih (a + s.size) t b (drop_app h (sbs_length s))
/-- a value of a kind, as a list bears it -/
def okV (kd : Nat) (v : PV) : Prop := if kd = 1 then okI v.1 ∧ v.2 = ByteArray.empty else v.1 = 0 ∧ v.2.size ≤ 1024
theorem list_at {xs b : List Nat} {p kd : Nat} {vs : List PV} (hkd : kd = 1 ∨ kd = 2) (hp : p ≤ xs.length) (h : xs.drop p = listB kd vs ++ b) (hv : ∀ v ∈ vs, okV kd v) (hs : sumT vs < 4294967296) :
    listOk kd vs.length p xs = true ∧ listNx kd vs.length p xs = p + (listB kd vs).length ∧ listP kd vs.length p xs = vs := by
  rcases hkd with rfl | rfl
  · have hI : vs = (vs.map Prod.fst).map pI := by
      rw [List.map_map]
      refine (List.map_id _).symm.trans (List.map_congr_left (fun v hx => ?_))
      have := hv v hx
      unfold okV at this
      rw [if_pos rfl] at this
      show v = (v.1, ByteArray.empty)
      rw [← this.2]
    have hT : textB (vs.map Prod.snd) = [] := by
      unfold textB
      rw [List.flatMap_eq_nil_iff]
      intro s hs2
      obtain ⟨v, hvm, rfl⟩ := List.mem_map.1 hs2
      have := hv v hvm
      unfold okV at this
      rw [if_pos rfl] at this
      rw [this.2]; rfl
    have hB : listB 1 vs = ((vs.map Prod.fst).map toU).flatMap (leN 8) := by
      unfold listB headB; rw [if_pos rfl, hT, List.append_nil]; rfl
    rw [hB] at h ⊢
    have hn := nums_at (by decide) hp h (fun x hx => by obtain ⟨y, _, rfl⟩ := List.mem_map.1 hx; rw [p64]; exact toU_lt y)
    simp only [List.length_map] at hn
    refine ⟨?_, ?_, ?_⟩
    · unfold listOk; rw [if_pos rfl]; exact hn.1
    · unfold listNx; rw [if_pos rfl, if_pos hn.1, flatMap_len _ 8 (leN_length 8), List.length_map, List.length_map]
    · unfold listP
      have e : ((vs.map Prod.fst).map toU).map sgn64 = vs.map Prod.fst := by
        rw [List.map_map]
        refine (List.map_congr_left (fun x hx => ?_)).trans (List.map_id _)
        obtain ⟨v, hvm, rfl⟩ := List.mem_map.1 hx
        have := hv v hvm
        unfold okV at this
        rw [if_pos rfl] at this
        rw [Function.comp_apply, id_eq]
        exact sgn_toU this.1
      rw [if_pos rfl, hn.2, e]
      exact hI.symm
  · have hS : vs = (vs.map Prod.snd).map pS := by
      rw [List.map_map]
      refine (List.map_id _).symm.trans (List.map_congr_left (fun v hx => ?_))
      have := hv v hx
      unfold okV at this
      rw [if_neg (by decide)] at this
      show v = (0, v.2)
      rw [← this.1]
    have hB : listB 2 vs = (endsL (vs.map Prod.snd)).flatMap (leN 4) ++ textB (vs.map Prod.snd) := by
      unfold listB headB; rw [if_neg (by decide)]; rfl
    have hss : ∀ s ∈ vs.map Prod.snd, s.size ≤ 1024 := by
      intro s hs2
      obtain ⟨v, hvm, rfl⟩ := List.mem_map.1 hs2
      have := hv v hvm
      unfold okV at this
      rw [if_neg (by decide)] at this
      exact this.2
    have hsum : sumS (vs.map Prod.snd) < 4294967296 := hs
    have hL : (vs.map Prod.snd).length = vs.length := by rw [List.length_map]
    rw [hB] at h ⊢
    generalize vs.map Prod.snd = ss at *
    rw [List.append_assoc] at h
    have hE : ∀ x ∈ endsL ss, x < 2 ^ (8 * 4) := by
      intro x hx
      unfold endsL at hx
      obtain ⟨i, _, rfl⟩ := List.mem_map.1 hx
      have := sumS_take_le ss (i + 1)
      rw [p32]
      exact Nat.lt_of_le_of_lt this hsum
    have hn := nums_at (by decide) hp h hE
    rw [endsL_len, hL] at hn
    have hl := len_of_drop hp h
    have hfl : ((endsL ss).flatMap (leN 4)).length = 4 * vs.length := by rw [flatMap_len _ 4 (leN_length 4), endsL_len, hL]
    rw [List.length_append, List.length_append, hfl, textB_len] at hl
    have hte : textEnd 0 (nI (endsL ss)) = some (sumS ss : Nat) := by
      rw [endsL_from]
      have := textEnd_from ss hss 0
      rwa [Nat.zero_add] at this
    have hok : strsOk vs.length p xs = true := by
      unfold strsOk
      rw [hn.1, hn.2, hte, Bool.true_and]
      exact decide_eq_true (by omega)
    have hd := drop_app h hfl
    refine ⟨?_, ?_, ?_⟩
    · unfold listOk; rw [if_neg (by decide)]; exact hok
    · unfold listNx strsNx
      rw [if_neg (by decide), if_pos hok, hn.2]
      unfold tsz
      rw [hte, List.length_append, hfl, textB_len]
      simp; omega
    · unfold listP strsV
      rw [if_neg (by decide), if_pos hok, hn.2, hd, endsL_from]
      rw [show (0 : Int) = ((0 : Nat) : Int) from rfl, cutS_from ss 0 _ b (by rw [List.drop_zero])]
      exact hS.symm
end Go.Proofs.YthonbfojpbfmgaaGreatDoor

/- Mathematics of the round trip: dictionaries, runs, frames. -/
set_option linter.unusedVariables false
set_option linter.unusedSimpArgs false
set_option linter.unnecessarySimpa false
set_option maxRecDepth 100000
namespace Go.Proofs.YthonbfojpbfmgaaGreatDoor
open Go.RowKit

theorem eqP_iff (a b : PV) : eqP a b = true ↔ a = b := by
  unfold eqP
  rw [decide_eq_true_eq]
  constructor
  · intro h
    by_cases he : a = b
    · exact he
    · by_cases hg : gtP a b
      · have := ordP_gt hg; omega
      · have := ordP_neg (gtP_tri hg he); omega
  · rintro rfl
    unfold ordP ordS ltS eqS
    rw [if_neg (Int.lt_irrefl _), if_neg (Int.lt_irrefl _), bytesLess_self]
    simp
theorem needN_pow (d : Nat) : d ≤ 2 ^ needN d := by
  unfold needN
  split
  · simp; omega
  · have := Nat.lt_log2_self (n := d - 1); omega
theorem place_get {D : List PV} {v : PV} (h : v ∈ D) : placeP D v < D.length ∧ D.getD (placeP D v) dfP = v := by
  unfold placeP
  have h1 : D.findIdx (fun x => eqP x v) < D.length := List.findIdx_lt_length_of_exists ⟨v, h, (eqP_iff v v).2 rfl⟩
  refine ⟨h1, ?_⟩
  have h2 := List.findIdx_getElem (w := h1)
  simp only [List.getD, List.getElem?_eq_getElem h1, Option.getD_some]
  exact (eqP_iff _ _).1 h2
theorem lanesD_ok (vs : List PV) (h : (diffP vs).length ≤ 256) (hl : vs.length ≤ 65536) : okVals (needN (diffP vs).length : Nat) (lanesD vs) = true := by
  rw [okVals_iff]
  have hn := needN_le512 (diffP vs).length (by omega)
  refine ⟨⟨by omega, by omega, by unfold lanesD; rw [List.length_map]; exact hl⟩, fun x hx => ?_⟩
  unfold lanesD at hx
  obtain ⟨v, hv, rfl⟩ := List.mem_map.1 hx
  have h1 := (place_get (diffP_all vs h v hv)).1
  have h2 := needN_pow (diffP vs).length
  rw [Int.toNat_natCast]; omega
theorem dict_at {xs : List Nat} {p kd : Nat} {vs : List PV} (hkd : kd = 1 ∨ kd = 2) (hp : p ≤ xs.length) (h : xs.drop p = dictB kd vs) (hv : ∀ v ∈ vs, okV kd v) (hs : sumT vs < 4294967296) (hd : (diffP vs).length ≤ 256) (hl : vs.length ≤ 65536) :
    dictR kd (needN (diffP vs).length) vs.length p xs = (true, vs) := by
  unfold dictB at h
  rw [List.append_assoc] at h
  have h1 := num_at hp h (by omega)
  have hdn : dN p xs = (diffP vs).length := by unfold dN; rw [if_pos h1.1, h1.2]
  have hln := len_of_drop hp h
  rw [List.length_append, leN_length] at hln
  have h2 := drop_app h (leN_length 4 _)
  have h3 := list_at hkd (by omega) h2 (fun v hx => hv v (diffP_mem vs v hx)) (Nat.lt_of_le_of_lt (diffP_sum vs) hs)
  have h4 := drop_app h2 rfl
  rw [List.length_append] at hln
  have h5 := lanes_at (by omega) h4 (lanesD_ok vs hd hl)
  have hll : (lanesD vs).length = vs.length := by unfold lanesD; rw [List.length_map]
  rw [hll] at h5
  unfold dictR
  rw [hdn, h3.1, h3.2.1, h3.2.2, h5.1, h5.2]
  rw [if_neg (by rw [h1.1]; simp; omega)]
  have hnp : noPair geP (diffP vs) = true := by
    rw [noPair_iff geP dfP]
    intro i hi
    have := List.pairwise_iff_getElem.1 (diffP_inc vs) i (i + 1) (by omega) hi (by omega)
    have h9 := ordP_neg this
    unfold geP
    simp only [List.getD, List.getElem?_eq_getElem hi, List.getElem?_eq_getElem (show i < (diffP vs).length by omega), Option.getD_some]
    exact decide_eq_false (by omega)
  rw [if_neg (by rw [hnp]; simp)]
  have hlt : ((lanesD vs).all fun c => decide (c < (diffP vs).length)) = true := by
    rw [List.all_eq_true]
    intro x hx
    unfold lanesD at hx
    obtain ⟨v, hvm, rfl⟩ := List.mem_map.1 hx
    exact decide_eq_true (place_get (diffP_all vs hd v hvm)).1
  rw [if_neg (by rw [hlt]; simp)]
  congr 1
  unfold lanesD
  rw [List.map_map]
  exact (List.map_congr_left (fun v hvm => (place_get (diffP_all vs hd v hvm)).2)).trans (List.map_id _)
theorem fillP_app (H E : List PV) (F G : List Nat) : ∀ i, i ≤ H.length → i ≤ F.length → fillP (H ++ E) (F ++ G) i = fillP H F i := by
  intro i
  induction i with
  | zero => intro _ _; rfl
  | succ i ih =>
    intro h1 h2
    unfold fillP
    rw [ih (by omega) (by omega)]
    simp only [List.getD, List.getElem?_append_left (show i < H.length by omega), List.getElem?_append_left (show i < F.length by omega)]
theorem noPair_snoc {α : Type} (r : α → α → Bool) : ∀ (xs : List α) (y : α), noPair r xs = true → (∀ l, xs.getLast? = some l → r l y = false) → noPair r (xs ++ [y]) = true := by
  intro xs
  induction xs with
  | nil => intro y _ _; rfl
  | cons a t ih =>
    intro y h1 h2
    cases t with
    | nil => simp [noPair, h2 a rfl]
    | cons b s =>
      simp only [noPair, Bool.and_eq_true] at h1
      simp only [List.cons_append, noPair, Bool.and_eq_true]
      refine ⟨h1.1, ih y h1.2 (fun l hl => h2 l ?_)⟩
      simpa using hl
theorem alike_to (vs : List PV) (l t : Nat) (h : ∀ m, l ≤ m → m < t → vs.getD m dfP = vs.getD (m + 1) dfP) : ∀ d m, m + d = t → l ≤ m → vs.getD m dfP = vs.getD t dfP := by
  intro d
  induction d with
  | zero => intro m h1 _; rw [← h1]; rfl
  | succ d ih => intro m h1 h2; exact (h m h2 (by omega)).trans (ih (m + 1) (by omega) (by omega))
/-- the runs among the first t values: where the last ends, and what they stand for -/
structure RunInv (vs : List PV) (t l : Nat) : Prop where
  up : endsUp 0 (nI (runEndsL vs t)) = some (l : Int)
  fill : fillP (runHeads vs t) (runEndsL vs t) (runEndsL vs t).length = vs.take l
  alike : ∀ m, l ≤ m → m < t → m + 1 < vs.length ∧ vs.getD m dfP = vs.getD (m + 1) dfP
  nop : noPair eqP (runHeads vs t) = true
  le : l ≤ t
  last : ∀ x, (runHeads vs t).getLast? = some x → l < vs.length → x ≠ vs.getD l dfP
theorem run_inv (vs : List PV) : ∀ t, t ≤ vs.length → ∃ l, RunInv vs t l ∧ (t = vs.length → 0 < t → l = t) := by
  intro t
  induction t with
  | zero =>
    intro _
    exact ⟨0, ⟨by simp [runEndsL, endIx, nI, endsUp], by simp [runEndsL, endIx, fillP], fun m h1 h2 => by omega, by simp [runHeads, endIx, noPair], Nat.le_refl _, fun x hx => by simp [runHeads, endIx] at hx⟩, fun _ h => absurd h (Nat.lt_irrefl 0)⟩
  | succ t ih =>
    intro ht
    obtain ⟨l, hi, _⟩ := ih (by omega)
    by_cases he : endAt vs t = true
    · have e1 := runEndsL_succ vs t
      have e2 := runHeads_succ vs t
      rw [if_pos he] at e1 e2
      have hlen : (runHeads vs t).length = (runEndsL vs t).length := runHeads_len vs t
      have hst : ∀ m, l ≤ m → m ≤ t → vs.getD m dfP = vs.getD t dfP := fun m h1 h2 => alike_to vs l t (fun m h1 h2 => (hi.alike m h1 h2).2) (t - m) m (by omega) h1
      refine ⟨t + 1, ⟨?_, ?_, fun m h1 h2 => by omega, ?_, Nat.le_refl _, ?_⟩, fun _ _ => rfl⟩
      · rw [e1, nI_append, endsUp_app _ _ _ _ hi.up]
        have := hi.le
        simp only [nI, List.map_cons, List.map_nil, endsUp]
        rw [if_neg (by omega)]
      · rw [e1, e2, List.length_append]
        simp only [List.length_cons, List.length_nil, fillP]
        rw [fillP_app _ _ _ _ _ (by omega) (Nat.le_refl _), hi.fill]
        have hle := hi.le
        have g1 : (runEndsL vs t ++ [t + 1]).getD (runEndsL vs t).length 0 = t + 1 := by simp [List.getD]
        have g2 : (runHeads vs t ++ [vs.getD t dfP]).getD (runEndsL vs t).length dfP = vs.getD t dfP := by rw [← hlen]; simp [List.getD]
        rw [g1, g2, List.length_take, Nat.min_eq_left (by omega)]
        have hsp : vs.take (t + 1) = vs.take l ++ (vs.drop l).take (t + 1 - l) := by
          rw [← List.take_add, Nat.add_sub_cancel' (by omega)]
        rw [hsp]
        congr 1
        symm
        apply List.ext_getElem
        · rw [List.length_replicate, List.length_take, List.length_drop]; omega
        · intro i h1 h2
          rw [List.length_take, List.length_drop] at h1
          rw [List.getElem_replicate, List.getElem_take, List.getElem_drop]
          have := hst (l + i) (by omega) (by omega)
          simp only [List.getD, List.getElem?_eq_getElem (show l + i < vs.length by omega), Option.getD_some] at this
          simpa [List.getD] using this
      · rw [e2]
        refine noPair_snoc _ _ _ hi.nop (fun x hx => ?_)
        have h1 := hi.last x hx (by have := hi.le; omega)
        rw [hst l (Nat.le_refl _) hi.le] at h1
        rw [← Bool.not_eq_true, eqP_iff]
        exact h1
      · intro x hx hlt
        rw [e2, List.getLast?_append, List.getLast?_singleton] at hx
        simp only [Option.some_or, Option.some.injEq] at hx
        subst hx
        unfold endAt at he
        rw [decide_eq_false (by omega), Bool.false_or, Bool.not_eq_true', ← Bool.not_eq_true, eqP_iff] at he
        exact he
    · have e1 := runEndsL_succ vs t
      have e2 := runHeads_succ vs t
      rw [if_neg he] at e1 e2
      unfold endAt at he
      simp only [Bool.or_eq_true, decide_eq_true_eq, Bool.not_eq_true', not_or, Bool.not_eq_false] at he
      refine ⟨l, ⟨by rw [e1]; exact hi.up, by rw [e1, e2]; exact hi.fill, fun m h1 h2 => ?_, by rw [e2]; exact hi.nop, by have := hi.le; omega, by rw [e2]; exact hi.last⟩, fun h _ => absurd h he.1⟩
      by_cases hm : m = t
      · subst hm; exact ⟨by omega, (eqP_iff _ _).1 he.2⟩
      · exact hi.alike m h1 (by omega)
theorem run_all (vs : List PV) : RunInv vs vs.length vs.length := by
  obtain ⟨l, h1, h2⟩ := run_inv vs vs.length (Nat.le_refl _)
  by_cases h : 0 < vs.length
  · have := h2 rfl h; rw [this] at h1; exact h1
  · have := h1.le
    obtain rfl : l = vs.length := by omega
    exact h1
theorem runs_at {xs : List Nat} {p kd : Nat} {vs : List PV} (hkd : kd = 1 ∨ kd = 2) (hp : p ≤ xs.length) (h : xs.drop p = runsB kd vs) (hv : ∀ v ∈ vs, okV kd v) (hs : sumT vs < 4294967296) (hl : vs.length ≤ 65536) :
    runsR kd vs.length p xs = (true, vs) := by
  have hi := run_all vs
  have hr := runEndsL_len vs vs.length
  have hh := runHeads_len vs vs.length
  have hlt := runEndsL_lt vs vs.length
  have hmem : ∀ v ∈ runHeads vs vs.length, okV kd v := by
    intro v hvm
    unfold runHeads endIx at hvm
    obtain ⟨i, him, rfl⟩ := List.mem_map.1 hvm
    have := List.mem_range.1 (List.mem_filter.1 him).1
    refine hv _ ?_
    simp [List.getD, List.getElem?_eq_getElem this]
  have hsm := runHeads_sum vs
  unfold runsB at h
  have hsumH : sumT (runHeads vs vs.length) < 4294967296 := Nat.lt_of_le_of_lt hsm hs
  rw [List.append_assoc] at h
  have h1 := num_at hp h (by omega)
  have hdn : dN p xs = (runEndsL vs vs.length).length := by unfold dN; rw [if_pos h1.1, h1.2]
  have hln := len_of_drop hp h
  rw [List.length_append, leN_length] at hln
  have h2 := drop_app h (leN_length 4 _)
  rw [List.length_append, le4N_len] at hln
  have h3 := nums_at (by decide) (by omega) h2 (fun x hx => by have := hlt x hx; omega)
  have h4 := drop_app h2 (le4N_len _)
  rw [← List.append_nil (listB kd _)] at h4
  have h5 := list_at hkd (by omega) h4 hmem hsumH
  rw [hh] at h5
  unfold runsR
  rw [hdn, h3.1, h3.2, h5.1, h5.2.1, h5.2.2]
  rw [if_neg (by rw [h1.1]; simp; omega), if_neg (by simp), if_neg (by simp; omega), hi.nop]
  have hre : runEnds (nI (runEndsL vs vs.length)) (vs.length : Nat) = true := by unfold runEnds; rw [hi.up]; simp
  rw [if_neg (by rw [hre]; simp), hi.fill, List.take_length]
def mnF (m x : PV) : PV := if ordP x m < 0 then x else m
theorem minP_cons (v : PV) (r : List PV) : minP (v :: r) = r.foldl mnF v := rfl
theorem minP_le (vs : List PV) (hv : ∀ v ∈ vs, okV 1 v) : okI (minP vs).1 ∧ ∀ v ∈ vs, (minP vs).1 ≤ v.1 := by
  have key : ∀ (r : List PV) (m : PV), (∀ v ∈ r, okV 1 v) → okV 1 m → okV 1 (r.foldl mnF m) ∧ (r.foldl mnF m).1 ≤ m.1 ∧ ∀ v ∈ r, (r.foldl mnF m).1 ≤ v.1 := by
    intro r
    induction r with
    | nil => intro m _ h; exact ⟨h, Int.le_refl _, fun v hv => by cases hv⟩
    | cons a r ih =>
      intro m h1 h2
      rw [List.foldl_cons]
      have ha := h1 a List.mem_cons_self
      by_cases hc : ordP a m < 0
      · rw [show mnF m a = a from if_pos hc]
        obtain ⟨k1, k2, k3⟩ := ih a (fun v hx => h1 v (List.mem_cons_of_mem _ hx)) ha
        have : a.1 ≤ m.1 := by
          unfold ordP at hc
          by_cases h3 : a.1 < m.1
          · omega
          · rw [if_neg h3] at hc
            by_cases h4 : m.1 < a.1
            · rw [if_pos h4] at hc; omega
            · omega
        refine ⟨k1, by omega, fun v hx => ?_⟩
        rcases List.mem_cons.1 hx with rfl | hx
        · exact k2
        · exact k3 v hx
      · rw [show mnF m a = m from if_neg hc]
        obtain ⟨k1, k2, k3⟩ := ih m (fun v hx => h1 v (List.mem_cons_of_mem _ hx)) h2
        have : m.1 ≤ a.1 := by
          unfold ordP at hc
          by_cases h3 : a.1 < m.1
          · rw [if_pos h3] at hc; omega
          · omega
        refine ⟨k1, k2, fun v hx => ?_⟩
        rcases List.mem_cons.1 hx with rfl | hx
        · omega
        · exact k3 v hx
  cases vs with
  | nil => exact ⟨by unfold minP zeroP okI; simp, fun v hv => by cases hv⟩
  | cons a r =>
    rw [minP_cons]
    obtain ⟨h1, h2, h3⟩ := key r a (fun v hx => hv v (List.mem_cons_of_mem _ hx)) (hv a List.mem_cons_self)
    refine ⟨?_, fun v hx => ?_⟩
    · unfold okV at h1; rw [if_pos rfl] at h1; exact h1.1
    · rcases List.mem_cons.1 hx with rfl | hx
      · exact h2
      · exact h3 v hx
theorem lane_back {b x : Int} (hb : okI b) (hx : okI x) (h : b ≤ x) : (toU x + 18446744073709551616 - toU b) % 18446744073709551616 = (x - b).toNat := by
  unfold okI at hb hx
  unfold toU
  omega
theorem vsum_back {b x : Int} (hb : okI b) (hx : okI x) (h : b ≤ x) : vsum b (x - b).toNat = x := by
  unfold okI at hb hx
  unfold vsum wrap64
  rw [IntKind.wrap_u64, IntKind.wrap_u64]
  omega
theorem ints_fst {vs : List PV} (hv : ∀ v ∈ vs, okV 1 v) : vs = (vs.map Prod.fst).map pI := by
  rw [List.map_map]
  refine (List.map_id _).symm.trans (List.map_congr_left (fun v hx => ?_))
  have := hv v hx
  unfold okV at this
  rw [if_pos rfl] at this
  show v = (v.1, ByteArray.empty)
  rw [← this.2]
theorem sums_back {vs : List PV} {b : Int} (hv : ∀ v ∈ vs, okV 1 v) (hb : okI b) (hm : ∀ v ∈ vs, b ≤ v.1) (ls : List Nat) (hls : ls = vs.map fun v => (v.1 - b).toNat) : fits b ls = true ∧ (sumsL b ls).map pI = vs := by
  have hf : fits b ls = true := by
    unfold fits
    rw [List.all_eq_true, hls]
    intro x hx
    obtain ⟨v, hvm, rfl⟩ := List.mem_map.1 hx
    have h1 := hv v hvm
    unfold okV at h1
    rw [if_pos rfl] at h1
    have h2 := hm v hvm
    have h3 := h1.1
    unfold okI at h3 hb
    unfold roomN
    exact decide_eq_true (by omega)
  refine ⟨hf, ?_⟩
  unfold sumsL
  rw [if_pos hf, hls]
  conv => rhs; rw [ints_fst hv]
  congr 1
  rw [List.map_map]
  refine List.map_congr_left (fun v hvm => ?_)
  have h1 := hv v hvm
  unfold okV at h1
  rw [if_pos rfl] at h1
  exact vsum_back hb h1.1 (hm v hvm)
theorem frame_at {xs : List Nat} {p wd : Nat} {vs : List PV} (hp : p ≤ xs.length) (h : xs.drop p = frameB (wd : Nat) vs) (hok : frameOk (wd : Nat) vs = true) (hv : ∀ v ∈ vs, okV 1 v) :
    payR 1 4 wd vs.length p xs = (true, vs) := by
  obtain ⟨hm1, hm2⟩ := minP_le vs hv
  unfold frameB at h
  unfold frameOk at hok
  have hls : lanesF (toU (minP vs).1) vs = vs.map fun v => (v.1 - (minP vs).1).toNat := by
    unfold lanesF
    refine List.map_congr_left (fun v hvm => ?_)
    have h1 := hv v hvm
    unfold okV at h1
    rw [if_pos rfl] at h1
    exact lane_back hm1 h1.1 (hm2 v hvm)
  have hln := len_of_drop hp h
  rw [List.length_append, leN_length] at hln
  have h1 := num_at hp h (by rw [p64]; exact toU_lt _)
  have h2 := drop_app h (leN_length 8 _)
  have h3 := lanes_at (by omega) h2 hok
  have hll : (lanesF (toU (minP vs).1) vs).length = vs.length := by unfold lanesF; rw [List.length_map]
  rw [hll] at h3
  obtain ⟨h4, h5⟩ := sums_back hv hm1 hm2 _ hls
  have hw : wd ≤ 64 := by have := ((okVals_iff _ _).1 hok).1; omega
  unfold payR
  rw [if_neg (by decide), if_neg (by decide), if_pos rfl, h1.2, sgn_toU hm1, h3.1, h3.2, h4, h5]
  rw [if_neg (by rw [h1.1]; simp; omega)]; rfl
theorem packed_at {xs : List Nat} {p wd : Nat} {vs : List PV} (hp : p ≤ xs.length) (h : xs.drop p = packedB (wd : Nat) vs) (hok : packedOk (wd : Nat) vs = true) (hv : ∀ v ∈ vs, okV 1 v) :
    payR 1 5 wd vs.length p xs = (true, vs) := by
  unfold packedB at h
  unfold packedOk at hok
  obtain ⟨hp0, hok⟩ := Bool.and_eq_true_iff.1 hok
  rw [List.all_eq_true] at hp0
  have hm2 : ∀ v ∈ vs, (0 : Int) ≤ v.1 := fun v hvm => by simpa using hp0 v hvm
  have h0 : okI 0 := by unfold okI; omega
  have hls : lanesK vs = vs.map fun v => (v.1 - 0).toNat := by
    unfold lanesK
    refine List.map_congr_left (fun v hvm => ?_)
    have h1 := hv v hvm
    unfold okV okI at h1
    rw [if_pos rfl] at h1
    have := hm2 v hvm
    unfold toU
    omega
  have h3 := lanes_at hp h hok
  have hll : (lanesK vs).length = vs.length := by unfold lanesK; rw [List.length_map]
  rw [hll] at h3
  obtain ⟨h4, h5⟩ := sums_back hv h0 hm2 _ hls
  have hw : wd ≤ 64 := by have := ((okVals_iff _ _).1 hok).1; omega
  unfold payR
  rw [if_neg (by decide), if_neg (by decide), if_neg (by decide), if_pos rfl, h3.1, h3.2, h4, h5]
  rw [if_neg (by simp; omega)]; rfl
theorem plain_at {xs : List Nat} {p kd : Nat} {vs : List PV} (hkd : kd = 1 ∨ kd = 2) (hp : p ≤ xs.length) (h : xs.drop p = listB kd vs) (hv : ∀ v ∈ vs, okV kd v) (hs : sumT vs < 4294967296) :
    payR kd 1 0 vs.length p xs = (true, vs) := by
  have hln := len_of_drop hp h
  rw [← List.append_nil (listB kd vs)] at h
  have h5 := list_at hkd hp h hv hs
  unfold payR
  rw [if_neg (by decide), if_neg (by decide), if_neg (by decide), if_neg (by decide), h5.1, h5.2.1, h5.2.2]
  simp
  omega
/-- every payload that Encode writes stands for the values that it was written for -/
theorem pay_at {xs : List Nat} {p kd cn pw : Nat} {wd : Int} {vs : List PV} (hkd : kd = 1 ∨ kd = 2) (hc : (isCodec kd cn && isWd cn wd) = true) (hpw : payW cn wd vs = (pw : Nat)) (hp : p ≤ xs.length) (h : xs.drop p = payB kd cn wd vs) (hok : payOk cn wd vs = true) (hv : ∀ v ∈ vs, okV kd v) (hs : sumT vs < 4294967296) (hl : vs.length ≤ 65536) :
    payR kd cn pw vs.length p xs = (true, vs) := by
  obtain ⟨hc1, hc2⟩ := Bool.and_eq_true_iff.1 hc
  have hcc : cn = 1 ∨ cn = 2 ∨ cn = 3 ∨ cn = 4 ∨ cn = 5 := by
    unfold isCodec at hc1
    split at hc1
    · omega
    · simp only [decide_eq_true_eq] at hc1; omega
  rcases hcc with rfl | rfl | rfl | rfl | rfl
  · have e : pw = 0 := by
      have : payW 1 wd vs = 0 := rfl
      omega
    subst e
    exact plain_at hkd hp h hv hs
  · have e : pw = needN (diffP vs).length := by
      have : payW 2 wd vs = (needN (diffP vs).length : Nat) := rfl
      omega
    subst e
    have hd : (diffP vs).length ≤ 256 := by
      have : decide ((diffP vs).length ≤ 256) = true := hok
      simpa using this
    show dictR _ _ _ _ _ = _
    exact dict_at hkd hp h hv hs hd hl
  · have e : pw = 0 := by
      have : payW 3 wd vs = 0 := rfl
      omega
    subst e
    have := runs_at hkd hp h hv hs hl
    unfold payR
    rw [if_neg (by decide), if_pos rfl, this]; rfl
  · have e : wd = (pw : Nat) := hpw
    subst e
    have hk1 : kd = 1 := by
      unfold isCodec at hc1
      rw [if_neg (by omega)] at hc1
      simp only [decide_eq_true_eq] at hc1; omega
    subst hk1
    exact frame_at hp h hok hv
  · have e : wd = (pw : Nat) := hpw
    subst e
    have hk1 : kd = 1 := by
      unfold isCodec at hc1
      rw [if_neg (by omega)] at hc1
      simp only [decide_eq_true_eq] at hc1; omega
    subst hk1
    exact packed_at hp h hok hv
end Go.Proofs.YthonbfojpbfmgaaGreatDoor

/- Leaves: what a leaf is for a value. -/
set_option linter.unusedVariables false
set_option linter.unusedSimpArgs false
set_option linter.unnecessarySimpa false
set_option maxRecDepth 100000
namespace Go.Proofs.YthonbfojpbfmgaaGreatDoor
open Go.RowKit

/-- is the leaf (other than OpIsNull) TRUE for the value? -/
def leafT (op : Int) (ls : List PV) (v : PV) : Bool :=
  if op = 7 then ls.any (fun a => eqP v a) else if op = 8 then decide (0 ≤ ordP v (ls.getD 0 dfP)) && decide (ordP v (ls.getD 1 dfP) ≤ 0) else standsS op (ordP v (ls.getD 0 dfP))
/-- what the code's test is handed for a leaf that is well-typed -/
def litsOk (op : Int) (n : Nat) : Prop := 1 ≤ op ∧ op ≤ 8 ∧ (op ≤ 6 → n = 1) ∧ (op = 8 → n = 2)
end Go.Proofs.YthonbfojpbfmgaaGreatDoor

/- Package kernel: the bitmap of the values for which a test holds (what both kinds have in common). -/
set_option linter.unusedVariables false
set_option linter.unusedSimpArgs false
set_option linter.unnecessarySimpa false
set_option maxRecDepth 100000
namespace Go.Proofs.YthonbfojpbfmgaaGreatDoor
open Go.RowKit

/-- a bitmap of n bits, by a function -/
def BitsOf (n : Nat) (F : Nat → Bool) (zs : List Nat) : Prop := zs.length = (n + 63) / 64 ∧ (∀ x ∈ zs, x < 18446744073709551616) ∧ ∀ i, bitOf zs i = (decide (i < n) && F i)
/-- what a list of hits answers -/
def HitAns (w w' : World) (e : Ending) (n : Nat) (F : Nat → Bool) : Prop :=
  ∃ v zs, e = .returned v ∧ BitsOf n F zs ∧ Rd w' v ((n + 63) / 64) 1 (u64s zs) ∧ Below w.heap.size w w'
/-- the bits below s, in words for n -/
def BitsTo (n s : Nat) (F : Nat → Bool) (zs : List Nat) : Prop := zs.length = (n + 63) / 64 ∧ (∀ x ∈ zs, x < 18446744073709551616) ∧ ∀ i, bitOf zs i = (decide (i < s) && F i)
theorem BitsTo.start (n : Nat) (F : Nat → Bool) : BitsTo n 0 F (List.replicate ((n + 63) / 64) 0) := by
  refine ⟨by simp, fun x hx => by rw [(List.mem_replicate.1 hx).2]; omega, fun i => ?_⟩
  have e : (List.replicate ((n + 63) / 64) 0).getD (i / 64) 0 = 0 := by
    simp only [List.getD]
    by_cases h : i / 64 < (n + 63) / 64
    · rw [List.getElem?_replicate, if_pos h]; rfl
    · rw [List.getElem?_replicate, if_neg h]; rfl
  unfold bitOf
  rw [e]; simp
theorem BitsTo.full {n : Nat} {F : Nat → Bool} {zs : List Nat} (h : BitsTo n n F zs) : BitsOf n F zs := h
theorem BitsTo.set {n s s' : Nat} {F : Nat → Bool} {ys zs : List Nat} (h : BitsTo n s F ys) (h1 : zs.length = (n + 63) / 64) (h2 : ∀ x ∈ zs, x < 18446744073709551616)
    (h3 : ∀ i, bitOf zs i = (bitOf ys i || (decide (s ≤ i) && decide (i < s')))) (hs : s ≤ s') (hF : ∀ i, s ≤ i → i < s' → F i = true) : BitsTo n s' F zs := by
  refine ⟨h1, h2, fun i => ?_⟩
  rw [h3, h.2.2]
  by_cases h4 : i < s
  · simp [h4, show i < s' by omega, show ¬ s ≤ i by omega]
  · by_cases h5 : i < s'
    · simp [h4, h5, show s ≤ i by omega, hF i (by omega) h5]
    · simp [h4, h5]
theorem BitsTo.skip {n s s' : Nat} {F : Nat → Bool} {ys : List Nat} (h : BitsTo n s F ys) (hs : s ≤ s') (hF : ∀ i, s ≤ i → i < s' → F i = false) : BitsTo n s' F ys := by
  refine ⟨h.1, h.2.1, fun i => ?_⟩
  rw [h.2.2]
  by_cases h4 : i < s
  · simp [h4, show i < s' by omega]
  · by_cases h5 : i < s'
    · simp [h4, h5, hF i (by omega) h5]
    · simp [h4, h5]
/-- where run number t starts -/
def endB (ends : List Nat) (t : Nat) : Nat := if t = 0 then 0 else ends.getD (t - 1) 0
theorem nI_get (xs : List Nat) (k : Nat) (h : k < xs.length) : (nI xs).getD k 0 = (xs.getD k 0 : Nat) := by
  unfold nI
  simp [List.getD, List.getElem?_map, List.getElem?_eq_getElem h]
end Go.Proofs.YthonbfojpbfmgaaGreatDoor
