/- The plain answer's lists of numbers; its need and its kindOK. -/
import Derived.Test.YthonbfojpbfmgaaGreatDoorLawfoldsplitB6
import Derived.Test.YthonbfojpbfmgaaGreatDoorLawfoldsplitB2
import Derived.OwnWalk
import Derived.Laws.Cover1
import Derived.Test.YthonbfojpbfmgaaGreatDoorLawfoldsplitB5
import Derived.Deep.CutRange
import Derived.Deep.RegionHeld3
set_option linter.unusedVariables false
set_option linter.unusedSimpArgs false
set_option linter.unnecessarySimpa false
set_option maxRecDepth 100000
namespace Go.Proofs.YthonbfojpbfmgaaGreatDoor
open Go.RowKit

def numsOk (size count p n : Nat) : Bool := decide (p ≤ n ∧ size * count ≤ n - p)
end Go.Proofs.YthonbfojpbfmgaaGreatDoor

/- Package chunk: the kinds' own methods over cells. -/
set_option linter.unusedVariables false
set_option linter.unusedSimpArgs false
set_option linter.unnecessarySimpa false
set_option maxRecDepth 100000
namespace Go.Proofs.YthonbfojpbfmgaaGreatDoor
open Go.RowKit

def cellI (x : Int) : List Value := [.bool false, .int .i64 x, .string ByteArray.empty]
def cellS (x : ByteArray) : List Value := [.bool false, .int .i64 0, .string x]
def aggv (cs : List Value) : Value := .agg cs.toArray

theorem IntsNumber_any (w : World) : Calls Tryz.prog 272 #[.agg #[]] w fun e w' => e = .returned (.int .i64 1) ∧ Below w.heap.size w w' := by
  go_enter Tryz.func272, Tryz.ntmps272
  go_wp2
  go_ret
  exact ⟨rfl, (brefl w).alloc (Nat.le_refl _) _⟩
theorem StrsNumber_any (w : World) : Calls Tryz.prog 266 #[.agg #[]] w fun e w' => e = .returned (.int .i64 2) ∧ Below w.heap.size w w' := by
  go_enter Tryz.func266, Tryz.ntmps266
  go_wp2
  go_ret
  exact ⟨rfl, (brefl w).alloc (Nat.le_refl _) _⟩
theorem IntsCell_any (x : Int) (w : World) : Calls Tryz.prog 271 #[.agg #[], .int .i64 x] w fun e w' => e = .returned (aggv (cellI x)) ∧ Below w.heap.size w w' := by
  go_enter Tryz.func271, Tryz.ntmps271
  go_wp2
  refine bodyPost_ret (v := aggv (cellI x)) ?_ rfl ⟨rfl, ?_⟩
  · simp [results, Tryz.results271, go_sem]
    rfl
  · exact ((brefl w).alloc (Nat.le_refl _) _).alloc (by simp) _
theorem IntsValue_any (x : Int) (w : World) : Calls Tryz.prog 273 #[.agg #[], aggv (cellI x)] w fun e w' => e = .returned (.int .i64 x) ∧ Below w.heap.size w w' := by
  unfold aggv cellI
  go_enter Tryz.func273, Tryz.ntmps273
  go_wp2
  go_ret
  refine ⟨rfl, ((brefl w).alloc (Nat.le_refl _) _).alloc (by simp) _⟩
theorem StrsCell_any (x : ByteArray) (w : World) : Calls Tryz.prog 265 #[.agg #[], .string x] w fun e w' => e = .returned (aggv (cellS x)) ∧ Below w.heap.size w w' := by
  go_enter Tryz.func265, Tryz.ntmps265
  go_wp2
  refine bodyPost_ret (v := aggv (cellS x)) ?_ rfl ⟨rfl, ?_⟩
  · simp [results, Tryz.results265, go_sem]
    rfl
  · exact ((brefl w).alloc (Nat.le_refl _) _).alloc (by simp) _
theorem CellRaw_I (x : Int) (w : World) : Calls Tryz.prog 271 #[.agg #[], .int .i64 x] w fun e w' => e = .returned (.agg #[.bool false, .int .i64 x, .string ByteArray.empty]) ∧ Below w.heap.size w w' := IntsCell_any x w
theorem CellRaw_S (x : ByteArray) (w : World) : Calls Tryz.prog 265 #[.agg #[], .string x] w fun e w' => e = .returned (.agg #[.bool false, .int .i64 0, .string x]) ∧ Below w.heap.size w w' := StrsCell_any x w
theorem m_Cell_I : ∀ w : World, (method 386 68 (.agg #[]) "Cell").run Tryz.prog w = .ok (271, .agg #[]) w := fun _ => by kernel_rfl
theorem m_Cell_S : ∀ w : World, (method 386 66 (.agg #[]) "Cell").run Tryz.prog w = .ok (265, .agg #[]) w := fun _ => by kernel_rfl
theorem m_Value_I : ∀ w : World, (method 386 68 (.agg #[]) "Value").run Tryz.prog w = .ok (273, .agg #[]) w := fun _ => by kernel_rfl
theorem m_Number_I : ∀ w : World, (method 386 68 (.agg #[]) "Number").run Tryz.prog w = .ok (272, .agg #[]) w := fun _ => by kernel_rfl
theorem m_Number_S : ∀ w : World, (method 386 66 (.agg #[]) "Number").run Tryz.prog w = .ok (266, .agg #[]) w := fun _ => by kernel_rfl

def setc3 (w : World) (p : Nat) (cs : List Value) : World := ((w.setCell ⟨p, 0, none⟩ (cs.getD 0 undef)).setCell ⟨p, 1, none⟩ (cs.getD 1 undef)).setCell ⟨p, 2, none⟩ (cs.getD 2 undef)
theorem row_setc3 {w : World} {p : Nat} {e : TypeId} {a b c : Value} (h : Row w p e [a, b, c]) (x y z : Value) : Row (setc3 w p [x, y, z]) p e [x, y, z] := ((h.set 0 x).set 1 y).set 2 z
theorem below_setc3 {B : Nat} {w0 w : World} (h : Below B w0 w) (p : Nat) (hp : B ≤ p) (cs : List Value) : Below B w0 (setc3 w p cs) := below_set (below_set (below_set h _ _ _ hp) _ _ _ hp) _ _ _ hp
/-- the cells of so many entries of three each -/
def cellsUp (A : Nat → Bool) (B : Nat → Int) (C : Nat → ByteArray) : Nat → List Value
  | 0 => []
  | n + 1 => cellsUp A B C n ++ [.bool (A n), .int .i64 (B n), .string (C n)]
theorem cellsUp_length (A : Nat → Bool) (B : Nat → Int) (C : Nat → ByteArray) (n : Nat) : (cellsUp A B C n).length = n * 3 := by
  induction n with
  | zero => rfl
  | succ n ih => simp [cellsUp, ih]; omega
theorem Tryz.infoCell : (Tryz.prog.info? 42).map (fun i => (i.zero, i.size, i.bytes)) = some (some (.agg [.bool false, .int .i64 0, .string ByteArray.empty].toArray), 3, 32) := by kernel_rfl
def setL (w : World) (a : Nat) : Nat → List Value → World
  | _, [] => w
  | o, v :: r => setL (w.setCell ⟨a, o, none⟩ v) a (o + 1) r
theorem row_setL {a : Nat} {e : TypeId} (vs : List Value) : ∀ (w : World) (pre cs : List Value), Row w a e (pre ++ cs) → vs.length = cs.length → Row (setL w a pre.length vs) a e (pre ++ vs) := by
  induction vs with
  | nil => intro w pre cs h hl; have : cs = [] := List.eq_nil_of_length_eq_zero hl.symm; subst this; exact h
  | cons v r ih =>
    intro w pre cs h hl
    match cs, hl with
    | c :: cs', hl =>
      have h1 := h.set pre.length v
      rw [List.set_append_right _ _ (Nat.le_refl _), Nat.sub_self, List.set_cons_zero] at h1
      have h2 := ih (w.setCell ⟨a, pre.length, none⟩ v) (pre ++ [v]) cs' (by simpa using h1) (by simpa using hl)
      rw [List.length_append] at h2
      simpa [setL] using h2
theorem row_setL0 {w : World} {a : Nat} {e : TypeId} {cs : List Value} (h : Row w a e cs) (vs : List Value) (hl : vs.length = cs.length) : Row (setL w a 0 vs) a e vs := row_setL vs w [] cs h hl
theorem below_setL {B : Nat} {w0 : World} (a : Nat) (ha : B ≤ a) (vs : List Value) : ∀ (w : World) (o : Nat), Below B w0 w → Below B w0 (setL w a o vs) := by
  induction vs with
  | nil => intro w o h; exact h
  | cons v r ih => intro w o h; exact ih _ _ (below_set h _ _ _ ha)
theorem setL_other (a : Nat) (vs : List Value) : ∀ (w : World) (o k : Nat), k ≠ a → (setL w a o vs).heap[k]? = w.heap[k]? := by
  induction vs with
  | nil => intro w o k h; rfl
  | cons v r ih => intro w o k h; rw [setL, ih _ _ _ h, heap_setCell_other _ _ _ _ (by simpa using h)]
theorem chg_setL (a : Nat) (vs : List Value) (w : World) (o : Nat) : Chg a a w (setL w a o vs) := by
  have hsz : ∀ (vs : List Value) (w : World) (o : Nat), Below 0 w (setL w a o vs) := fun vs w o => below_setL (w0 := w) a (Nat.zero_le _) vs w o (Below.refl _ _)
  have h := hsz vs w o
  exact ⟨h.os, h.tape, h.output, h.size, fun k _ h1 _ => setL_other a vs w o k h1⟩
theorem popN_zero (k : Nat) : L.popN k 0 = 0 := by induction k with | zero => rfl | succ k ih => simp [L.popN, ih]
/-- the bits up to b, pushed to the top of the word -/
theorem popN_top (x b : Nat) (hb : b < 64) : L.popN 64 (x * 2 ^ (63 - b) % 18446744073709551616) = L.popN (b + 1) x := by
  have e64 : (18446744073709551616 : Nat) = 2 ^ (63 - b) * 2 ^ (b + 1) := by rw [← Nat.pow_add, show 63 - b + (b + 1) = 64 by omega]
  have h1 : x * 2 ^ (63 - b) % 18446744073709551616 = 2 ^ (63 - b) * (x % 2 ^ (b + 1)) := by
    rw [e64, Nat.mul_comm x, Nat.mul_mod_mul_left]
  rw [h1, show (64 : Nat) = (63 - b) + (b + 1) by omega, L.popN_add, Nat.mul_div_cancel_left _ (Nat.pow_pos (by omega)), L.popN_mod]
  rw [← L.popN_mod, Nat.mul_mod_right, popN_zero, Nat.zero_add]
/-- the bits set up to a row -/
theorem rank_upto (ws : List Nat) (r : Nat) (hr : r / 64 < ws.length) :
    popL (ws.take (r / 64)) + L.popN 64 (ws.getD (r / 64) 0 * 2 ^ (63 - r % 64) % 18446744073709551616) = rankN ws (r + 1) := by
  rw [popN_top _ _ (by omega), ← rankN_words ws _ (by omega), ← rankN_word ws (r / 64) (r % 64 + 1) (by omega)]
  congr 1
  omega
end Go.Proofs.YthonbfojpbfmgaaGreatDoor

/- The plain answer's need, order, lanesAt. -/
set_option linter.unusedVariables false
set_option linter.unusedSimpArgs false
set_option linter.unnecessarySimpa false
set_option maxRecDepth 100000
namespace Go.Proofs.YthonbfojpbfmgaaGreatDoor
open Go.RowKit

def ordS (a b : ByteArray) : Int := if ltS a b = true then -1 else if (!(ltS a b || eqS a b)) = true then 1 else 0
end Go.Proofs.YthonbfojpbfmgaaGreatDoor

/- A chunk in memory, and its lane. -/
set_option linter.unusedVariables false
set_option linter.unusedSimpArgs false
set_option linter.unnecessarySimpa false
set_option maxRecDepth 20000
namespace Go.Proofs.YthonbfojpbfmgaaGreatDoor
open Go.RowKit

/-- the cells of a chunk: rows, codec, width, nulls, count, list, ends, base, lanes, kind, nulls before -/
def ck_I (rows codec width : Int) (nulls : Value) (count : Int) (list ends : Value) (base : Int) (lanes kind bef : Value) : List Value :=
  [i64 rows, i64 codec, i64 width, nulls, i64 count, list, ends, i64 base, lanes, kind, bef]
/-- a chunk at block g, by its fields -/
structure CkAt_I (w : World) (g : Nat) (rows codec width : Int) (nulls : Value) (count : Int) (list ends : Value) (base : Int) (lanes kind bef : Value) : Prop where
  row : Row w g 111 (ck_I rows codec width nulls count list ends base lanes kind bef)

set_option maxHeartbeats 1000000 in
theorem lane_I (w : World) (g : Nat) (rows codec : Int) (wd : Nat) (nulls : Value) (count : Int) (list ends : Value) (base : Int) (lanes kind bef : Value) (ws : List Nat) (j : Nat)
    (h : Row w g 111 (ck_I rows codec wd nulls count list ends base lanes kind bef)) (hx : Rd w lanes ws.length 1 (u64s ws)) (hv : ∀ x ∈ ws, x < 18446744073709551616)
    (hw : wd ≤ 64) (hj : j ≤ 65536) (hin : 0 < wd → j / (64 / wd) < ws.length) :
    Calls Tryz.prog 169 #[.pointer (some ⟨g, 0, none⟩), .int .i64 j] w fun e w' => e = .returned (.int .u64 (L.laneOf wd ws j : Nat)) ∧ ∃ n, w' = w.drewN n := by
  have c2 : w.cell? ⟨g, 0 + 2, none⟩ = some (.int .i64 wd) := by rw [h.cell]; rfl
  by_cases h0 : wd = 0
  · subst h0
    go_enter Tryz.func169, Tryz.ntmps169
    go_wp2
    go_ret
    exact ⟨by simp [L.laneOf], 0, rfl⟩
  · obtain ⟨A, ca, rfl, hlc, hcm, hA⟩ := hx.form
    have hlt := hin (by omega)
    obtain ⟨b, o, rfl, hs⟩ := hA (Nat.lt_of_le_of_lt (Nat.zero_le _) hlt)
    have c8 : w.cell? ⟨g, 0 + 8, none⟩ = some (.slice (some ⟨b, o, none⟩) ws.length ca) := by rw [h.cell]; rfl
    have c1 := hs.word _ hlt
    have hvj : ws.getD (j / (64 / wd)) 0 < 18446744073709551616 := hv _ (by simp [List.getD, List.getElem?_eq_getElem hlt])
    have hp := L.per_pos (by omega) hw
    have hp2 : 64 / wd ≤ 64 := Nat.div_le_self 64 wd
    obtain ⟨p, hP⟩ : ∃ p, 64 / wd = p := ⟨_, rfl⟩
    have hPi : (64 : Int) / (wd : Int) = (p : Int) := by rw [← hP]; simp
    rw [hP] at c1 hvj hp hp2 hlt
    have hmul : j % p * wd ≤ 64 := by
      have h1 := L.per_mul wd
      rw [hP] at h1
      exact Nat.le_trans (Nat.mul_le_mul_right wd (Nat.le_of_lt (Nat.mod_lt _ hp))) h1
    obtain ⟨q, hq⟩ : ∃ q, j % p * wd = q := ⟨_, rfl⟩
    have hq' : ((j : Int) % (p : Int)) * (wd : Int) = (q : Int) := by rw [← hq]; simp
    rw [hq] at hmul
    obtain ⟨d, hd⟩ : ∃ d, j / p = d := ⟨_, rfl⟩
    have hd' : (j : Int) / (p : Int) = (d : Int) := by rw [← hd]; simp
    have hdj : d ≤ 65536 := by rw [← hd]; exact Nat.le_trans (Nat.div_le_self _ _) hj
    rw [hd] at c1 hvj hlt
    have HL : Hid (L.laneOf wd ws j = ws.getD d 0 / 2 ^ q % 2 ^ wd) := hid (by unfold L.laneOf; rw [if_neg h0, hP, hd, hq])
    have hne : ¬ (wd : Int) = 0 := by omega
    have hpe : ¬ (p : Int) = 0 := by omega
    clear hA hs hx hv hin hP hq hd h
    generalize ws.getD d 0 = x at *
    have HAND := hid (and_lane x q wd hvj hw)
    generalize hz : 2 ^ wd - 1 = z at *
    have HZ := hid hz
    clear hz
    have hw1 : (wd : Int) ≤ 64 := by omega
    have HSH : Hid (IntKind.u64.wrap (IntKind.u64.wrap (2 ^ wd) - 1) = (z : Int)) := hid (by rw [← HZ.out]; exact low_bits wd hw)
    go_enter Tryz.func169, Tryz.ntmps169
    go_wp2
    rw [hPi, HSH.out]
    go_quiet (fail)
    go_wp2
    go_ret
    exact ⟨ret_u64 (by rw [HAND.out, HL.out]), _, rfl⟩
end Go.Proofs.YthonbfojpbfmgaaGreatDoor

/- Package chunk: the parts of a payload off the reader. -/
set_option linter.unusedVariables false
set_option linter.unusedSimpArgs false
set_option linter.unnecessarySimpa false
set_option maxRecDepth 100000
namespace Go.Proofs.YthonbfojpbfmgaaGreatDoor
open Go.RowKit

set_option maxHeartbeats 4000000 in
theorem readLanes_I (w0 w : World) (g gr : Nat) (xs : List Nat) (s : Bool) (rows codec wd k : Int) (nulls list ends lanes kind bef : Value) (base op : Int) (lim : Nat)
    (hT : Tab w0) (hc : Row w g 111 (ck_I rows codec wd nulls k list ends base lanes kind bef)) (hr : RdrAt w0 w gr xs s) (hne : g ≠ gr) (hg0 : w0.heap.size ≤ g) (hgs : gr < w.heap.size)
    (hv : ∀ x ∈ xs, x < 256) (hl : xs.length ≤ 16777216) (hlim : lim < 18446744073709551616) :
    Calls Tryz.prog 205 #[.pointer (some ⟨g, 0, none⟩), .pointer (some ⟨gr, 0, none⟩), .int .i64 op, .int .u64 lim] w fun e w' =>
      e = .returned (.bool (lanesB wd k op (restW xs) lim)) ∧ ∃ v, Row w' g 111 (ck_I rows codec wd nulls k list ends base v kind bef) ∧
        w'.ownsRow w.heap.size 40 1 v (restW xs).length (u64s (restW xs)) ∧ RdrAt w0 w' gr (tkL (8 * (xs.length / 8)) xs) (tkS (8 * (xs.length / 8)) xs s) ∧ Chg g gr w w' := by
  obtain ⟨ws, hws⟩ : ∃ ws, restW xs = ws := ⟨_, rfl⟩
  have hwv : ∀ x ∈ ws, x < 18446744073709551616 := by rw [← hws]; exact numL_lt (tk_lt hv) (by omega)
  have hwl : ws.length ≤ 2097152 := by rw [← hws, restW_len]; omega
  obtain ⟨c, hcc⟩ : ∃ c, xs.length / 8 = c := ⟨_, rfl⟩
  obtain ⟨xl, hxl⟩ : ∃ xl, tkL (8 * c) xs = xl := ⟨_, rfl⟩
  obtain ⟨s1, hs1⟩ : ∃ s1, tkS (8 * c) xs s = s1 := ⟨_, rfl⟩
  have hU := U64s_any w0 w gr xs s c hr hgs hv hl (by omega)
  have hwc : numL 8 (tk (8 * c) xs) = ws := by rw [← hws, ← hcc]; rfl
  rw [hwc, hxl, hs1] at hU
  rw [hws, hcc, hxl, hs1]
  have HU := hid hU
  have HLEFT := hid (Left_any w0 w gr xs s hr hl)
  have hce : (xs.length : Int) / 8 = (c : Int) := by omega
  have HC := hid hc
  have HR := hid hr
  have HT := hid hT
  have HTL := hid hT.lt
  have hgw : g < w.heap.size := hc.lt
  obtain ⟨B, hB⟩ : ∃ B, w.heap.size = B := ⟨_, rfl⟩
  have HB := hid hB
  rw [hB]
  obtain ⟨wr, hwr⟩ : ∃ wr, cmpR wd k op ws lim = wr := ⟨_, rfl⟩
  obtain ⟨ok, hok⟩ : ∃ ok, cmpOk wd k op ws = ok := ⟨_, rfl⟩
  have hwrl : wr.length ≤ maxLen := by rw [← hwr]; have := cmpR_len wd k op ws lim; unfold maxLen; omega
  have hwrv : ∀ x ∈ wr, x < 18446744073709551616 := by rw [← hwr]; exact cmpR_lt wd k op ws lim
  have eB : lanesB wd k op ws lim = (ok && (rankR k k wr == 0)) := by rw [lanesB, hwr, hok]
  rw [eB]
  have HCMP := hid (fun (w2 : World) (v : Value) (h1 : Tab w2) (h2 : Rd w2 v ws.length 1 (u64s ws)) => Compare_any v ws wd k op lim w2 h1 h2 hwv hlim (by unfold maxLen; omega))
  rw [hwr, hok] at HCMP
  obtain ⟨rk, hrk⟩ : ∃ rk, rankR k k wr = rk := ⟨_, rfl⟩
  have HRANK := hid (fun (w2 : World) (v : Value) (h2 : Rd w2 v wr.length 1 (u64s wr)) => Rank_any v wr k k w2 h2 hwrv hwrl)
  rw [hrk] at HRANK ⊢
  clear hws hwc hxl hs1 hcc hU hc hr hT hB hwr hok eB hrk hv hwv
  go_enter Tryz.func205, Tryz.ntmps205
  go_upto_region 2 with (first
    | (go_at_call 84; refine HLEFT.out.mono ?_; rintro e w1 ⟨rfl, hw⟩; replace hw := hw.symm; subst hw)
    | (go_at_call 80; refine HU.out.mono ?_; rintro e w1 ⟨p, hp, rfl, hrow, hat, hch⟩; have HP := hid hp; have HROW := hid hrow; have HAT := hid hat; have HCH := hid hch; have HCK := hid (hch.row HC.out hne hne); have c8 : w1.cell? ⟨g, 0 + 8, none⟩ = some lanes := (by rw [HCK.out.cell]; rfl); have f8 := HCK.out.frozen (0 + 8); clear hp hrow hat hch))
  have HCK2 : Hid (Row (w1.setCell ⟨g, 8, none⟩ (.slice (some ⟨p, 0, none⟩) ws.length ws.length)) g 111 (ck_I rows codec wd nulls k list ends base (.slice (some ⟨p, 0, none⟩) ws.length ws.length) kind bef)) := hid (HCK.out.set 8 _)
  have HS := hid ((Chg.refl g gr w1).setCell g 8 (.slice (some ⟨p, 0, none⟩) ws.length ws.length) (.inl rfl))
  have hpB : B ≤ p := by have := HP.out; have := HB.out; omega
  have hpg : p ≠ g := by have := HB.out; omega
  have hpgr : p ≠ gr := by have := HB.out; omega
  have HAT2 := hid (HAT.out.chg ((Chg.refl g g w1).setCell g 8 (.slice (some ⟨p, 0, none⟩) ws.length ws.length) (.inl rfl)) (Ne.symm hne) (Ne.symm hne) hg0 hg0)
  have HROW2 := hid (HS.out.row HROW.out hpg hpgr)
  have HCH2 := hid ((Chg.wide' (a := g) HCH.out).trans HS.out)
  clear HCK HROW HAT HS HC HR HLEFT HU
  generalize w1.setCell ⟨g, 8, none⟩ (.slice (some ⟨p, 0, none⟩) ws.length ws.length) = w2 at *
  have hT2 : Hid (Tab w2) := hid (HT.out.mono HAT2.out.2.1 HTL.out)
  have HRD2 := hid (HROW2.out.rd' (n := ws.length) (by simp [u64s]) (by unfold maxLen; omega))
  have d8 : w2.cell? ⟨g, 0 + 8, none⟩ = some (.slice (some ⟨p, 0, none⟩) ws.length ws.length) := by rw [HCK2.out.cell]; rfl
  have d2 : w2.cell? ⟨g, 0 + 2, none⟩ = some (.int .i64 wd) := by rw [HCK2.out.cell]; rfl
  have d4 : w2.cell? ⟨g, 0 + 4, none⟩ = some (.int .i64 k) := by rw [HCK2.out.cell]; rfl
  have HC3 := hid (fun nd : Nat => HCMP.out (w2.drewN nd) _ (hT2.out.mono (bdrew (brefl w2) nd) hT2.out.lt) (HRD2.out.mono (bdrew (brefl w2) nd)))
  clear c8 f8 HCMP
  have d8' : w2.cell? ⟨g, 8, none⟩ = some (.slice (some ⟨p, 0, none⟩) ws.length ws.length) := by rw [HCK2.out.cell]; rfl
  have d2' : w2.cell? ⟨g, 2, none⟩ = some (.int .i64 wd) := by rw [HCK2.out.cell]; rfl
  have d4' : w2.cell? ⟨g, 4, none⟩ = some (.int .i64 k) := by rw [HCK2.out.cell]; rfl
  clear d8 d2 d4
  have hgw2 : g < w2.heap.size := HCK2.out.lt
  go_cut [9, 10] from 11 (fun s9 s10 wc => s10 = .bool ok ∧ Hid (Rd wc s9 wr.length 1 (u64s wr)) ∧ Hid (Below w2.heap.size w2 wc))
  case first =>
    go_region_held3 (fun w' => w'.cell? ⟨g, 8, none⟩ = some (.slice (some ⟨p, 0, none⟩) ws.length ws.length) ∧ w'.cell? ⟨g, 2, none⟩ = some (.int .i64 wd) ∧ w'.cell? ⟨g, 4, none⟩ = some (.int .i64 k)) (go_keep)
      (first | (go_at_call 52; refine (HC3.out 1).mono ?_; rintro e w3 ⟨r3, rfl, ho3, hb3⟩; have HO3 := hid ho3; have HB3 := hid hb3; obtain ⟨A3, c3, rfl, hc3, _, _, _⟩ := owns_form ho3; have k8 := (hb3.cell (p := ⟨g, 8, none⟩) hgw2).trans d8'; have k2 := (hb3.cell (p := ⟨g, 2, none⟩) hgw2).trans d2'; have k4 := (hb3.cell (p := ⟨g, 4, none⟩) hgw2).trans d4'; clear ho3 hb3 hc3))
    all_goals (go_wp2_with fail; go_meet)
    all_goals exact ⟨rfl, hid (owns_rd HO3.out), hid ((bdrew (brefl w2) _).trans HB3.out)⟩
  case rest =>
    obtain ⟨rfl, HW9, HB9⟩ := hcut
    have HCK3 : Hid (Row wc g 111 (ck_I rows codec wd nulls k list ends base (.slice (some ⟨p, 0, none⟩) ws.length ws.length) kind bef)) := hid (HCK2.out.mono HB9.out)
    have e4 : wc.cell? ⟨g, 4, none⟩ = some (.int .i64 k) := by rw [HCK3.out.cell]; rfl
    have HRK := hid (fun nd : Nat => HRANK.out (wc.drewN nd) _ (HW9.out.mono (bdrew (brefl wc) nd)))
    have HROW3 := hid (HROW2.out.mono HB9.out)
    have HAT3 := hid (HAT2.out.mono HB9.out)
    have HCH3 := hid (HCH2.out.then_below HB9.out HCH2.out.size)
    clear HCK2 HROW2 HAT2 HCH2 HB9 d8' d2' d4' HC3 HRANK HW9 HRD2 hT2
    cases ok
    case' false =>
      go_wp2_with fail
      go_quiet (fail)
    case' true =>
      go_wp2_with fail
      go_quiet (first | (go_at_call 36; refine Calls.quiet_of (HRK.out _)))
    all_goals go_wp2_with fail
    all_goals go_ret
    all_goals exact ⟨rfl, _, HCK3.out.drewN nq, (HROW3.out.drewN nq).owns hpB (by simp [u64s]) (by unfold maxLen; omega), HAT3.out.mono (bdrew (brefl wc) nq), HCH3.out.drewN nq⟩

theorem m_readList_I : ∀ w : World, (method 386 68 (.agg #[]) "colscan/chunk.readList").run Tryz.prog w = .ok (274, .agg #[]) w := fun _ => by kernel_rfl
/-- what reading a payload off the reader leaves -/
structure Out_I where
  b : Bool
  left : List Nat
  short : Bool
  list : List Int
  ends : List Nat
  lanes : List Nat
/-- .. as memory has it -/
structure OutAt_I (w0 w w' : World) (B g gr : Nat) (rows codec wd k : Int) (nulls kind bef : Value) (base : Int) (o : Out_I) : Prop where
  ck : ∃ lv ev nv, Row w' g 111 (ck_I rows codec wd nulls k lv ev base nv kind bef) ∧ w'.ownsRow B 2 1 lv o.list.length (i64s o.list) ∧
    w'.ownsRow B 3 1 ev o.ends.length (nIs o.ends) ∧ w'.ownsRow B 40 1 nv o.lanes.length (u64s o.lanes)
  rdr : RdrAt w0 w' gr o.left o.short
  chg : Chg g gr w w'
def kind_I : Value := .iface 68 (.agg #[])

def outPlain_I (wd : Int) (k : Nat) (xs : List Nat) (s : Bool) : Out_I :=
  { b := (rdI k xs s).2.1 && decide (wd = 0), left := (rdI k xs s).2.2.1, short := (rdI k xs s).2.2.2, list := (rdI k xs s).1, ends := [], lanes := [] }

set_option maxHeartbeats 4000000 in
theorem readPlain_I (w0 w : World) (g gr : Nat) (xs : List Nat) (s : Bool) (rows codec wd : Int) (k : Nat) (nulls bef : Value) (base : Int)
    (hc : Row w g 111 (ck_I rows codec wd nulls k nilS nilS base nilS kind_I bef)) (hr : RdrAt w0 w gr xs s) (hne : g ≠ gr) (hg0 : w0.heap.size ≤ g) (hgs : gr < w.heap.size)
    (hv : ∀ x ∈ xs, x < 256) (hl : xs.length ≤ 16777216) (hk : k ≤ 65536) :
    Calls Tryz.prog 156 #[.pointer (some ⟨g, 0, none⟩), .pointer (some ⟨gr, 0, none⟩)] w fun e w' =>
      e = .returned (.bool (outPlain_I wd k xs s).b) ∧ OutAt_I w0 w w' w.heap.size g gr rows codec wd k nulls kind_I bef base (outPlain_I wd k xs s) := by
  have HC := hid hc
  have HR := hid hr
  have HRL := hid (fun nd : Nat => readListI_any w0 (w.drewN nd) gr xs s k (hr.mono (bdrew (brefl w) nd)) hgs hv hl (by omega))
  have d9 : w.cell? ⟨g, 9, none⟩ = some (.iface 68 (.agg #[])) := by rw [hc.cell]; rfl
  have d4 : w.cell? ⟨g, 4, none⟩ = some (.int .i64 k) := by rw [hc.cell]; rfl
  have hgw : g < w.heap.size := hc.lt
  obtain ⟨vals, b, xl, s1, hR⟩ : ∃ vals b xl s1, rdI k xs s = (vals, b, xl, s1) := ⟨_, _, _, _, rfl⟩
  have eO : outPlain_I wd k xs s = { b := b && decide (wd = 0), left := xl, short := s1, list := vals, ends := [], lanes := [] } := by unfold outPlain_I; rw [hR]
  rw [eO]
  rw [hR] at HRL
  clear hc hr hv eO hR
  obtain ⟨B, hB⟩ : ∃ B, w.heap.size = B := ⟨_, rfl⟩
  have HB := hid hB
  rw [hB]
  clear hB
  have hm := m_readList_I
  go_enter Tryz.func156, Tryz.ntmps156
  go_upto_region 1 with fail
  go_cut [5, 6] from 7 (fun s5 s6 wc => ∃ A c, s5 = .slice A vals.length c ∧ s6 = .bool b ∧ Hid (wc.ownsRow B 2 1 (.slice A vals.length c) vals.length (i64s vals)) ∧ Hid (RdrAt w0 wc gr xl s1) ∧ Hid (Chg g gr w wc) ∧ Hid (Row wc g 111 (ck_I rows codec wd nulls k nilS nilS base nilS kind_I bef)))
  case first =>
    go_region_held3 (fun w' => w'.cell? ⟨g, 9, none⟩ = some (.iface 68 (.agg #[])) ∧ w'.cell? ⟨g, 4, none⟩ = some (.int .i64 k)) (go_keep)
      (first | (go_at_call 274; refine (HRL.out 1).mono ?_; rintro e w3 ⟨v3, rfl, ho3, ha3, hc3⟩; have k9 := (hc3.cell g 9 hgw hne hne).trans d9; have k4 := (hc3.cell g 4 hgw hne hne).trans d4; have HO3 := hid ho3; have HA3 := hid ha3; have HC3 := hid (Chg.wide' (a := g) hc3); have HCK3 := hid (hc3.row (HC.out.drewN 1) hne hne); obtain ⟨A3, c3, rfl, hcc3, _, _, _⟩ := owns_form ho3; clear ho3 ha3 hc3 hcc3))
    all_goals (go_wp2_with fail; go_meet)
    all_goals exact ⟨_, _, rfl, rfl, hid (by rw [← HB.out]; exact HO3.out), HA3, hid (((Chg.refl g gr w).drewN 1).trans HC3.out), HCK3⟩
  case rest =>
    obtain ⟨A3, c3, rfl, rfl, HO3, HA3, HC3, HCK3⟩ := hcut
    have e5 : wc.cell? ⟨g, 0 + 5, none⟩ = some nilS := by rw [HCK3.out.cell]; rfl
    have e2 : wc.cell? ⟨g, 0 + 2, none⟩ = some (.int .i64 wd) := by rw [HCK3.out.cell]; rfl
    have f5 := HCK3.out.frozen (0 + 5)
    have hFIN : ∀ bb : Bool, OutAt_I w0 w (wc.setCell ⟨g, 5, none⟩ (.slice A3 vals.length c3)) B g gr rows codec wd k nulls kind_I bef base { b := bb, left := xl, short := s1, list := vals, ends := [], lanes := [] } := by
      intro bb
      have hch := (Chg.refl g g wc).setCell g 5 (.slice A3 vals.length c3) (.inl rfl)
      have hgB : g < B := by have := HB.out; omega
      exact ⟨⟨_, _, _, HCK3.out.set 5 _, owns_chg HO3.out hch hgB hgB, World.ownsRow_nil _ _ _ _, World.ownsRow_nil _ _ _ _⟩, HA3.out.chg hch (Ne.symm hne) (Ne.symm hne) hg0 hg0, HC3.out.setCell g 5 _ (.inl rfl)⟩
    have HFIN := hid hFIN
    clear hFIN HC HR HRL d9 d4 hm
    cases b
    case' false => go_wp2
    case' true => go_wp2
    all_goals go_ret
    all_goals exact ⟨by by_cases h : wd = 0 <;> simp [h], HFIN.out _⟩
end Go.Proofs.YthonbfojpbfmgaaGreatDoor

/- Package chunk: dictionaries, runs, offsets and whole payloads off the reader. -/
set_option linter.unusedVariables false
set_option linter.unusedSimpArgs false
set_option linter.unnecessarySimpa false
set_option maxRecDepth 100000
namespace Go.Proofs.YthonbfojpbfmgaaGreatDoor
open Go.RowKit

theorem owns_mono_I {w : World} {B C : Nat} {e : TypeId} {v : Value} {n : Nat} {cs : List Value} (h : w.ownsRow B e 1 v n cs) (hC : C ≤ B) : w.ownsRow C e 1 v n cs := by
  refine ⟨h.1, ?_⟩
  rcases h.2 with hn | ⟨g, cap, cur, rfl, hb', hg, r⟩
  · exact .inl hn
  · exact .inr ⟨g, cap, cur, rfl, Nat.le_trans hC hb', hg, r⟩
def outDict_I (wd : Int) (k : Nat) (xs : List Nat) (s : Bool) : Out_I :=
  if 256 < L.wordOf 8 (tk 4 xs) ∨ wd ≠ (needN (L.wordOf 8 (tk 4 xs)) : Int) then { b := false, left := tkL 4 xs, short := tkS 4 xs s, list := [], ends := [], lanes := [] }
  else match rdI (L.wordOf 8 (tk 4 xs)) (tkL 4 xs) (tkS 4 xs s) with
    | (vals, ok, xl, s1) =>
      if (ok && noPair geI vals) = true then { b := lanesB wd k 6 (restW xl) (L.wordOf 8 (tk 4 xs)), left := tkL (8 * (xl.length / 8)) xl, short := tkS (8 * (xl.length / 8)) xl s1, list := vals, ends := [], lanes := restW xl }
      else { b := false, left := xl, short := s1, list := vals, ends := [], lanes := [] }

set_option maxHeartbeats 8000000 in
theorem readDict_I (w0 w : World) (g gr : Nat) (xs : List Nat) (s : Bool) (rows codec wd : Int) (k : Nat) (nulls bef : Value) (base : Int) (hT : Tab w0)
    (hc : Row w g 111 (ck_I rows codec wd nulls k nilS nilS base nilS kind_I bef)) (hr : RdrAt w0 w gr xs s) (hne : g ≠ gr) (hg0 : w0.heap.size ≤ g) (hgs : gr < w.heap.size)
    (hv : ∀ x ∈ xs, x < 256) (hl : xs.length ≤ 16777216) (hk : k ≤ 65536) :
    Calls Tryz.prog 157 #[.pointer (some ⟨g, 0, none⟩), .pointer (some ⟨gr, 0, none⟩)] w fun e w' =>
      e = .returned (.bool (outDict_I wd k xs s).b) ∧ OutAt_I w0 w w' w.heap.size g gr rows codec wd k nulls kind_I bef base (outDict_I wd k xs s) := by
  have hU := U32_any w0 w gr xs s hr hv hl
  have hd32 : L.wordOf 8 (tk 4 xs) < 4294967296 := wordOf4_lt _ (tk_lt hv) (tk_le 4 xs)
  obtain ⟨d, hd⟩ : ∃ d, L.wordOf 8 (tk 4 xs) = d := ⟨_, rfl⟩
  obtain ⟨xs1, hx1⟩ : ∃ xs1, tkL 4 xs = xs1 := ⟨_, rfl⟩
  obtain ⟨s1, hs1⟩ : ∃ s1, tkS 4 xs s = s1 := ⟨_, rfl⟩
  have hxl1 : xs1.length ≤ 16777216 := by rw [← hx1]; exact Nat.le_trans (tkL_le _ _) hl
  have hxv1 : ∀ x ∈ xs1, x < 256 := by rw [← hx1]; exact tkL_lt hv
  obtain ⟨O, hO⟩ : ∃ O, outDict_I wd k xs s = O := ⟨_, rfl⟩
  have HO := hid hO
  unfold outDict_I at HO
  rw [hd, hx1, hs1] at HO
  rw [hd, hx1, hs1] at hU
  rw [hd] at hd32
  rw [hO]
  have HU := hid hU
  have HC := hid hc
  have HT := hid hT
  have hgw : g < w.heap.size := hc.lt
  have d2 : w.cell? ⟨g, 2, none⟩ = some (.int .i64 wd) := by rw [hc.cell]; rfl
  clear hU hc hr hT hd hx1 hs1 hO hv hl
  obtain ⟨B, hB⟩ : ∃ B, w.heap.size = B := ⟨_, rfl⟩
  have HB := hid hB
  rw [hB]
  clear hB
  have hm := m_readList_I
  go_enter Tryz.func157, Tryz.ntmps157
  go_upto_region 2 with (first | (go_at_call 183; refine HU.out.mono ?_; rintro e w1 ⟨rfl, ha1, hc1⟩; have HA1 := hid ha1; have HC1 := hid (Chg.wide' (a := g) hc1); have HCK1 := hid (hc1.row HC.out hne hne); clear ha1 hc1))
  have e2 : w1.cell? ⟨g, 2, none⟩ = some (.int .i64 wd) := by rw [HCK1.out.cell]; rfl
  have hgr1 : gr < w1.heap.size := Nat.lt_of_lt_of_le hgs HC1.out.size
  have hgB : g < B := by have := HB.out; omega
  have hB1 : B ≤ w1.heap.size := by have := HB.out; have := HC1.out.size; omega
  have HFAIL : Hid (∀ n, OutAt_I w0 w (w1.drewN n) B g gr rows codec wd k nulls kind_I bef base { b := false, left := xs1, short := s1, list := [], ends := [], lanes := [] }) := hid (fun n =>
    ⟨⟨_, _, _, HCK1.out.drewN n, World.ownsRow_nil _ _ _ _, World.ownsRow_nil _ _ _ _, World.ownsRow_nil _ _ _ _⟩, HA1.out.mono (bdrew (brefl w1) n), HC1.out.drewN n⟩)
  clear HU HC d2
  by_cases hbig : 256 < d
  · have hO : O = { b := false, left := xs1, short := s1, list := [], ends := [], lanes := [] } := by rw [← HO.out, if_pos (.inl hbig)]
    subst hO
    have hb1 : (d : Int) > 256 := by omega
    go_wp2_with fail
    go_quiet (fail)
    go_wp2_with fail
    go_ret
    exact ⟨rfl, HFAIL.out _⟩
  · have hb1 : ¬ (d : Int) > 256 := by omega
    obtain ⟨nd, hnd⟩ : ∃ nd, needN d = nd := ⟨_, rfl⟩
    have HN := hid (fun w2 : World => Need_any d w2 (by omega))
    rw [hnd] at HN HO
    clear hnd
    by_cases hw : wd = (nd : Int)
    · have hw1 : (wd != (nd : Int)) = false := by rw [hw]; simp
      have hO2 := HO.out
      rw [if_neg (fun h => h.elim (fun h => hbig h) (fun h => h hw))] at hO2
      obtain ⟨vals, ok, xl, s2, hR⟩ : ∃ vals ok xl s2, rdI d xs1 s1 = (vals, ok, xl, s2) := ⟨_, _, _, _, rfl⟩
      rw [hR] at hO2
      simp only at hO2
      have hxl : xl.length ≤ 16777216 := by have := (rd_left_I d xs1 s1).1; rw [hR] at this; exact Nat.le_trans this hxl1
      have hxv : ∀ x ∈ xl, x < 256 := by have := (rd_left_I d xs1 s1).2 256 hxv1; rw [hR] at this; exact this
      have hvl : vals.length ≤ 16777216 := by have := rd_len_I d xs1 s1 hxl1; rw [hR] at this; exact this
      have HO2 := hid hO2
      have HRL := hid (fun (w2 : World) (h : RdrAt w0 w2 gr xs1 s1) (h2 : gr < w2.heap.size) => readListI_any w0 w2 gr xs1 s1 d h h2 hxv1 hxl1 (by omega))
      rw [hR] at HRL
      have HHW := hid hw
      clear hO2 hR hw HO HFAIL
      go_wp2_with fail
      go_quiet (first | (go_at_call 184; refine Calls.quiet_of_same (HN.out _)))
      have HA2 := hid (HA1.out.mono (bdrew (brefl w1) nq))
      have HC2 := hid (HC1.out.drewN nq)
      have HCK2 := hid (HCK1.out.drewN nq)
      have hgr2 : gr < (w1.drewN nq).heap.size := hgr1
      have hB2 : B ≤ (w1.drewN nq).heap.size := hB1
      clear HA1 HC1 HCK1 e2 HN
      generalize w1.drewN nq = w2 at *
      have d9 : w2.cell? ⟨g, 0 + 9, none⟩ = some (.iface 68 (.agg #[])) := by rw [HCK2.out.cell]; rfl
      go_wp2_with fail
      refine (HRL.out w2 HA2.out hgr2).mono ?_
      rintro e w3 ⟨v3, rfl, ho3, ha3, hc3⟩
      obtain ⟨A3, c3, rfl, hcc3, _, _, _⟩ := owns_form ho3
      have HO3 := hid (owns_mono_I ho3 hB2)
      have HA3 := hid ha3
      have HC3 := hid (HC2.out.trans (Chg.wide' (a := g) hc3))
      have HCK3 := hid (hc3.row HCK2.out hne hne)
      have e5 : w3.cell? ⟨g, 0 + 5, none⟩ = some nilS := by rw [HCK3.out.cell]; rfl
      have f5 := HCK3.out.frozen (0 + 5)
      have hgr3 : gr < w3.heap.size := Nat.lt_of_lt_of_le hgs HC3.out.size
      have hch4 := (Chg.refl g g w3).setCell g 5 (.slice A3 vals.length c3) (.inl rfl)
      have HCK4 : Hid (Row (w3.setCell ⟨g, 5, none⟩ (.slice A3 vals.length c3)) g 111 (ck_I rows codec wd nulls k (.slice A3 vals.length c3) nilS base nilS kind_I bef)) := hid (HCK3.out.set 5 _)
      have HO4 := hid (owns_chg HO3.out hch4 hgB hgB)
      have HA4 := hid (HA3.out.chg hch4 (Ne.symm hne) (Ne.symm hne) hg0 hg0)
      have HC4 := hid (HC3.out.setCell g 5 (.slice A3 vals.length c3) (.inl rfl))
      have hgr4 : gr < (w3.setCell ⟨g, 5, none⟩ (.slice A3 vals.length c3)).heap.size := Nat.lt_of_lt_of_le hgr3 hch4.size
      have hB4 : B ≤ (w3.setCell ⟨g, 5, none⟩ (.slice A3 vals.length c3)).heap.size := Nat.le_trans hB2 (Nat.le_trans hc3.size hch4.size)
      clear ho3 ha3 hc3 hcc3 HA2 HC2 HCK2 d9 HRL HO3 HA3 HC3 HCK3 hch4 hm hgr2 hgr3 hB2
      go_upto_region 6 with fail
      clear e5 f5
      generalize w3.setCell ⟨g, 5, none⟩ (.slice A3 vals.length c3) = w4 at *
      have HASC := hid (ascendingI_any _ vals w4 (owns_rd HO4.out) (by unfold maxLen; omega))
      have HLN := hid (fun n : Nat => readLanes_I w0 (w4.drewN n) g gr xl s2 rows codec wd k nulls (.slice A3 vals.length c3) nilS nilS kind_I bef base 6 d HT.out (HCK4.out.drewN n) (HA4.out.mono (bdrew (brefl w4) n)) hne hg0 hgr4 hxv hxl (by omega))
      have HO5 := hid (fun n : Nat => (⟨⟨_, _, _, HCK4.out.drewN n, owns_below HO4.out (bdrew (brefl w4) n), World.ownsRow_nil _ _ _ _, World.ownsRow_nil _ _ _ _⟩, HA4.out.mono (bdrew (brefl w4) n), HC4.out.drewN n⟩ : OutAt_I w0 w (w4.drewN n) B g gr rows codec wd k nulls kind_I bef base { b := false, left := xl, short := s2, list := vals, ends := [], lanes := [] }))
      obtain ⟨asc, hasc⟩ : ∃ asc, noPair geI vals = asc := ⟨_, rfl⟩
      rw [hasc] at HASC HO2
      clear hasc
      cases ok
      case' false =>
        have hO := HO2.out
        rw [if_neg (by simp)] at hO
        subst hO
        go_wp2_with fail
        go_ret
        exact ⟨rfl, HO5.out 0⟩
      cases asc
      case' false =>
        have hO := HO2.out
        rw [if_neg (by simp)] at hO
        subst hO
        go_wp2_with (go_at_call 204; refine HASC.out.mono ?_; rintro e w5 ⟨rfl, n5, rfl⟩)
        go_ret
        exact ⟨rfl, HO5.out _⟩
      case' true =>
        have hO := HO2.out
        rw [if_pos (by rfl)] at hO
        obtain ⟨lb, hlb⟩ : ∃ lb, lanesB wd k 6 (restW xl) d = lb := ⟨_, rfl⟩
        rw [hlb] at HLN hO
        clear HO5 HO2 hlb
        subst hO
        go_wp2_with (first
          | (go_at_call 204; refine HASC.out.mono ?_; rintro e w5 ⟨rfl, n5, rfl⟩)
          | (go_at_call 205; refine (HLN.out n5).mono ?_; rintro e w6 ⟨rfl, v6, hr6, ho6, ha6, hc6⟩; have HR6 := hid hr6; have HO6 := hid (owns_mono_I ho6 hB4); have HA6 := hid ha6; have HC6 := hid hc6; have HO46 := hid (owns_chg (owns_below HO4.out (bdrew (brefl w4) n5)) hc6 hgB (by have := HB.out; omega)); clear hr6 ho6 ha6 hc6))
        go_ret
        exact ⟨rfl, ⟨_, _, _, HR6.out, HO46.out, World.ownsRow_nil _ _ _ _, HO6.out⟩, HA6.out, (HC4.out.drewN n5).trans HC6.out⟩
    · have hO : O = { b := false, left := xs1, short := s1, list := [], ends := [], lanes := [] } := by rw [← HO.out, if_pos (.inr hw)]
      subst hO
      have hw1 : (wd != (nd : Int)) = true := by rw [bne_iff_ne]; exact hw
      go_wp2_with fail
      go_quiet (first | (go_at_call 184; refine Calls.quiet_of_same (HN.out _)))
      go_wp2_with fail
      go_ret
      exact ⟨rfl, HFAIL.out _⟩
end Go.Proofs.YthonbfojpbfmgaaGreatDoor

/- Lists of cells that grow: append of one entry of three cells; the plain answer's lanesAt. -/
set_option linter.unusedVariables false
set_option linter.unusedSimpArgs false
set_option linter.unnecessarySimpa false
set_option maxRecDepth 100000
namespace Go.Proofs.YthonbfojpbfmgaaGreatDoor
open Go.RowKit

theorem cell_new3 (w : World) (a b c : Value) (e : TypeId) : ∀ j u, [a, b, c][j]? = some u → (w.alloc (.cells #[a, b, c] e)).cell? ((⟨w.heap.size, 0, none⟩ : Addr).add j) = some u := by
  intro j u h
  have hr : Row (w.alloc (.cells #[a, b, c] e)) w.heap.size e [a, b, c] := by unfold Row; rw [heap_alloc_new]
  rw [addr_add, hr.cell, Nat.zero_add]; exact h
theorem owns3_form {w : World} {B : Nat} {e : TypeId} {v : Value} {n : Nat} {cs : List Value} (h : w.ownsRow B e 3 v n cs) : ∃ A cap, v = .slice A n cap := by
  rcases h.2 with ⟨rfl, rfl⟩ | ⟨g, cap, cur, rfl, _⟩
  · exact ⟨none, 0, rfl⟩
  · exact ⟨_, _, rfl⟩
theorem owns3_rd {w : World} {B : Nat} {e : TypeId} {v : Value} {n : Nat} {cs : List Value} (h : w.ownsRow B e 3 v n cs) : Rd w v n 3 cs := by
  refine ⟨h.1, ?_⟩
  rcases h.2 with ⟨rfl, rfl⟩ | ⟨g, cap, cur, rfl, hb, hg, hnc, hcm, hcs, htake⟩
  · exact .inl ⟨⟨_, rfl⟩, rfl⟩
  · refine .inr ⟨g, 0, cap, rfl, hnc, hcm, ?_⟩
    intro i v hv
    have := h.cells (g := g) rfl i v hv
    rwa [addr_add] at this
def lanesOk (wd k p : Nat) (xs : List Nat) : Bool := decide (p ≤ xs.length ∧ (xs.length - p) % 8 = 0) && okPack wd k (restW (xs.drop p))
def lanesV (wd k p : Nat) (xs : List Nat) : List Nat := if lanesOk wd k p xs = true then L.lanesL wd k (restW (xs.drop p)) else []
end Go.Proofs.YthonbfojpbfmgaaGreatDoor
