/- Package kernel: bitmaps: new ones, ranges of bits, what is in one or the other, in both. -/
import Derived.Test.YthonbfojpbfmgaaGreatDoorLawfolduptoB7
import Derived.Test.YthonbfojpbfmgaaGreatDoorLawfolduptoB4
import Derived.Deep.CutBlock
import Derived.Deep.RegionHeld3
import Derived.Deep.DeepMust
import Derived.Test.YthonbfojpbfmgaaGreatDoorLawfolduptoB6
import Derived.Test.YthonbfojpbfmgaaGreatDoorLawfolduptoB2
import Derived.OwnWalk
import Derived.Laws.Cover1
import Derived.Test.YthonbfojpbfmgaaGreatDoorLawfolduptoB5
import Derived.Deep.CutRange
set_option linter.unusedVariables false
set_option linter.unusedSimpArgs false
set_option linter.unnecessarySimpa false
set_option maxRecDepth 100000
namespace Go.Proofs.YthonbfojpbfmgaaGreatDoor
open Go.RowKit

end Go.Proofs.YthonbfojpbfmgaaGreatDoor

/- The plain answer's numbers off a list of bytes. -/
set_option linter.unusedVariables false
set_option linter.unusedSimpArgs false
set_option linter.unnecessarySimpa false
set_option maxRecDepth 100000
namespace Go.Proofs.YthonbfojpbfmgaaGreatDoor
open Go.RowKit

theorem wordOf8_cons (x : Nat) (r : List Nat) : L.wordOf 8 (x :: r) = x + 256 * L.wordOf 8 r := by simp [L.wordOf]
def numOk (size p n : Nat) : Bool := decide (p ≤ n ∧ size ≤ n - p)
set_option maxHeartbeats 1000000 in
theorem numberAt_any (v : Value) (xs : List Nat) (p size : Nat) (w : World) (hx : Rd w v xs.length 1 (u8s xs)) (hb : ∀ x ∈ xs, x < 256) (hl : xs.length ≤ 16777216) (hs : size ≤ 8) (hp : p ≤ 1099511627776) :
    Calls Tryz.prog 111 #[v, .int .i64 p, .int .i64 size] w fun e w' =>
      e = .returned (.tuple #[.int .u64 (if numOk size p xs.length = true then L.wordOf 8 ((xs.drop p).take size) else 0 : Nat), .bool (numOk size p xs.length)]) ∧ w' = w := by
  obtain ⟨A, ca, rfl, hlc, hcm, hA⟩ := hx.form
  clear hx
  by_cases hok : p ≤ xs.length ∧ size ≤ xs.length - p
  · have hno : numOk size p xs.length = true := by unfold numOk; simpa using hok
    rw [hno, if_pos rfl]
    have h1 : ¬ (p : Int) < 0 := by omega
    have h2 : ¬ (p : Int) > (xs.length : Int) := by omega
    have h3 : ¬ (size : Int) > (xs.length : Int) - (p : Int) := by omega
    clear hno
    go_enter Tryz.func111, Tryz.ntmps111
    go_wp2
    go_loop [8, 9] (fun u i => ∃ c : Nat, c ≤ size ∧ i = .int .i64 ((size : Int) - 1 - c) ∧ u = .int .u64 (L.wordOf 8 ((xs.drop (p + (size - c))).take c) : Nat)) (fun _ i => (intOf i + 1).toNat)
    case atStart => exact ⟨0, by omega, by simp, by simp [L.wordOf]⟩
    case round =>
      obtain ⟨c, hc, rfl, rfl⟩ := hrel
      by_cases hlt : c < size
      · obtain ⟨b, o, rfl, hseg⟩ := hA (by omega)
        obtain ⟨q, hq⟩ : ∃ q, p + (size - (c + 1)) = q := ⟨_, rfl⟩
        have hqi : (p : Int) + ((size : Int) - 1 - (c : Int)) = (q : Int) := by omega
        have hql : q < xs.length := by omega
        have c1 := hseg.byte q hql
        have hvb : xs.getD q 0 < 256 := hb _ (by simp [List.getD, List.getElem?_eq_getElem hql])
        have hstep : (xs.drop q).take (c + 1) = xs.getD q 0 :: (xs.drop (p + (size - c))).take c := by
          rw [List.drop_eq_getElem_cons hql, List.take_succ_cons, show p + (size - c) = q + 1 by omega]
          simp [List.getD, List.getElem?_eq_getElem hql]
        have hlt64 : L.wordOf 8 ((xs.drop (p + (size - c))).take c) < 2 ^ (8 * c) := by
          have := L.wordOf_lt 8 ((xs.drop (p + (size - c))).take c) (fun x hx => hb x (List.mem_of_mem_drop (List.mem_of_mem_take hx)))
          rw [List.length_take, List.length_drop, Nat.min_eq_left (by omega)] at this
          exact this
        have hpow : 2 ^ (8 * c) * 256 ≤ 18446744073709551616 := by
          have : 2 ^ (8 * c) * 2 ^ 8 ≤ 2 ^ 64 := by rw [← Nat.pow_add]; exact Nat.pow_le_pow_right (by omega) (by omega)
          simpa using this
        have HST : Hid (L.wordOf 8 ((xs.drop (p + (size - (c + 1)))).take (c + 1)) = xs.getD q 0 + 256 * L.wordOf 8 ((xs.drop (p + (size - c))).take c)) := hid (by rw [hq, hstep, wordOf8_cons])
        have hidx : (size : Int) - 1 - (c : Int) ≥ 0 := by omega
        clear hstep hseg hA hq
        generalize xs.getD q 0 = x at *
        generalize L.wordOf 8 ((xs.drop (p + (size - c))).take c) = a at *
        generalize 2 ^ (8 * c) = pw at *
        go_wp2
        go_round
        case rel => exact ⟨c + 1, by omega, by congr 1; omega, by rw [HST.out]; congr 1; omega⟩
        case measure => simp [intOf]; omega
      · have hidx : ¬ ((size : Int) - 1 - (c : Int) ≥ 0) := by omega
        obtain rfl : c = size := by omega
        go_wp2
        go_ret2
        exact ⟨by simp, rfl⟩
  · have hno : numOk size p xs.length = false := by unfold numOk; simpa using hok
    rw [hno, if_neg (by simp)]
    have h1 : ¬ (p : Int) < 0 := by omega
    clear hno hA
    go_enter Tryz.func111, Tryz.ntmps111
    by_cases h2 : p ≤ xs.length
    · have h2' : ¬ (p : Int) > (xs.length : Int) := by omega
      have h3 : (size : Int) > (xs.length : Int) - (p : Int) := by omega
      go_wp2
      go_ret2
      exact ⟨rfl, rfl⟩
    · have h2' : (p : Int) > (xs.length : Int) := by omega
      go_wp2
      go_ret2
      exact ⟨rfl, rfl⟩
end Go.Proofs.YthonbfojpbfmgaaGreatDoor

/- The plain answer's lists of numbers; its need and its kindOK. -/
set_option linter.unusedVariables false
set_option linter.unusedSimpArgs false
set_option linter.unnecessarySimpa false
set_option maxRecDepth 100000
namespace Go.Proofs.YthonbfojpbfmgaaGreatDoor
open Go.RowKit

theorem kindOK_any (k : Int) (w : World) : Calls Tryz.prog 39 #[.int .i64 k] w fun e w' => e = .returned (.bool (isKind k)) ∧ w' = w := by
  go_enter Tryz.func39, Tryz.ntmps39
  go_wp2
  all_goals go_ret
  all_goals refine ⟨ret_bool ?_, rfl⟩
  all_goals by_cases h1 : k = 1 <;> by_cases h2 : k = 2 <;> simp_all [isKind]

def numsOk (size count p n : Nat) : Bool := decide (p ≤ n ∧ size * count ≤ n - p)
theorem nums_part (size count p : Nat) (xs : List Nat) (h : p ≤ xs.length ∧ size * count ≤ xs.length - p) (i : Nat) (hi : i < count) :
    ((tk (size * count) (xs.drop p)).drop (size * i)).take size = (xs.drop (p + size * i)).take size := by
  have h1 : size * i + size ≤ size * count := by rw [← Nat.mul_succ]; exact Nat.mul_le_mul_left _ hi
  unfold tk
  rw [if_pos (by rw [List.length_drop]; exact h.2), List.drop_take, List.take_take, List.drop_drop, Nat.min_eq_left (by omega)]
theorem numsL_snoc (size count p : Nat) (xs : List Nat) (h0 : 0 < size) (h : p ≤ xs.length ∧ size * count ≤ xs.length - p) (i : Nat) (hi : i < count) :
    (numL size (tk (size * count) (xs.drop p))).take (i + 1) = (numL size (tk (size * count) (xs.drop p))).take i ++ [L.wordOf 8 ((xs.drop (p + size * i)).take size)] := by
  have hlen : (numL size (tk (size * count) (xs.drop p))).length = count := by
    rw [numL_length]; unfold tk; rw [if_pos (by rw [List.length_drop]; exact h.2), List.length_take, List.length_drop, Nat.min_eq_left (by omega)]
    exact Nat.mul_div_cancel_left _ h0
  rw [List.take_succ_eq_append_getElem (by omega)]
  congr 2
  unfold numL
  rw [List.getElem_map, List.getElem_range, nums_part size count p xs h i hi]

set_option maxHeartbeats 2000000 in
theorem numbersAt_any (v : Value) (xs : List Nat) (p size count : Nat) (w : World) (hx : Rd w v xs.length 1 (u8s xs)) (hb : ∀ x ∈ xs, x < 256) (hl : xs.length ≤ 16777216) (hs : size = 4 ∨ size = 8) (hp : p ≤ 1099511627776) (hc : count ≤ 4294967296) :
    Calls Tryz.prog 59 #[v, .int .i64 p, .int .i64 size, .int .i64 count] w fun e w' =>
      ∃ u, e = .returned (.tuple #[u, .int .i64 (if numsOk size count p xs.length = true then p + size * count else 0 : Nat), .bool (numsOk size count p xs.length)]) ∧
        w'.ownsRow w.heap.size 40 1 u (numL size (tk (size * count) (xs.drop p))).length (u64s (numL size (tk (size * count) (xs.drop p)))) ∧ Below w.heap.size w w' := by
  obtain ⟨A, ca, rfl, hlc, hcm, hA⟩ := hx.form
  clear hA
  have h0 : 0 < size := by omega
  by_cases hok : p ≤ xs.length ∧ size * count ≤ xs.length - p
  · have hno : numsOk size count p xs.length = true := by unfold numsOk; simpa using hok
    rw [hno, if_pos rfl]
    have hlen : (numL size (tk (size * count) (xs.drop p))).length = count := by
      rw [numL_length]; unfold tk; rw [if_pos (by rw [List.length_drop]; exact hok.2), List.length_take, List.length_drop, Nat.min_eq_left (by omega)]
      exact Nat.mul_div_cancel_left _ h0
    have HSN := hid (numsL_snoc size count p xs h0 hok)
    have HX := hid hx
    have hcl : count ≤ 16777216 := by rcases hs with rfl | rfl <;> omega
    have h1 : ¬ (count : Int) < 0 := by omega
    have h2 : ¬ (p : Int) < 0 := by omega
    have h3 : ¬ (p : Int) > (xs.length : Int) := by omega
    have h4 : ¬ (count : Int) > ((xs.length : Int) - (p : Int)) / (size : Int) := by rcases hs with rfl | rfl <;> omega
    obtain ⟨M, hM⟩ : ∃ M, numL size (tk (size * count) (xs.drop p)) = M := ⟨_, rfl⟩
    rw [hM] at hlen HSN ⊢
    have hfin : (count : Int) * (size : Int) = ((size * count : Nat) : Int) := by rw [Nat.mul_comm]; simp
    obtain ⟨sc, hsc⟩ : ∃ sc, size * count = sc := ⟨_, rfl⟩
    rw [hsc] at hok hfin ⊢
    have hscl : sc ≤ 16777216 := by omega
    obtain ⟨B, hB⟩ : ∃ B, w.heap.size = B := ⟨_, rfl⟩
    have HBE := hid hB
    rw [hB]
    clear hx hno hM hB
    go_enter Tryz.func59, Tryz.ntmps59
    go_wp2
    go_loopw [11, 12] (fun u i wr => ∃ j : Nat, j ≤ count ∧ i = .int .i64 j ∧ wr.ownsRow B 40 1 u j (u64s (M.take j)) ∧ Below w.heap.size w wr) (fun _ i _ => count - (intOf i).toNat)
    case atStart => exact ⟨0, by omega, rfl, by simpa [u64s] using World.ownsRow_nil _ _ _ _, Below.refl _ _⟩
    case round =>
      obtain ⟨j, hj, rfl, hown, hbw⟩ := hrel
      have HOWN := hid hown
      obtain ⟨A2, c2, rfl, _, _, _⟩ := owns_form hown
      clear hown
      by_cases hlt : j < count
      · obtain ⟨q, hq⟩ : ∃ q, p + size * j = q := ⟨_, rfl⟩
        have hmul : (j : Int) * (size : Int) = ((size * j : Nat) : Int) := by rw [Nat.mul_comm]; simp
        have hsj : size * j + size ≤ sc := by rw [← hsc, ← Nat.mul_succ]; exact Nat.mul_le_mul_left _ hlt
        have hq' : (p : Int) + ((size * j : Nat) : Int) = (q : Int) := by omega
        have hnum1 : q ≤ xs.length := by omega
        have hnum2 : size ≤ xs.length - q := by omega
        have hnum : numOk size q xs.length = true := by unfold numOk; exact decide_eq_true ⟨hnum1, hnum2⟩
        have HN := hid (numberAt_any _ xs q size wr (HX.out.mono hbw) hb hl (by omega) (by omega))
        rw [hnum, if_pos rfl] at HN
        have HST := hid (HSN.out j hlt)
        rw [hq] at HST
        have hsjl : size * j ≤ 16777216 := by omega
        generalize L.wordOf 8 ((xs.drop q).take size) = x at *
        generalize size * j = sj at *
        clear hnum hq
        have hBw : B ≤ wr.heap.size := by have := HBE.out; have := hbw.size; omega
        go_wp2_with (first
          | (go_at_call 111; refine HN.out.mono ?_; rintro e w3 ⟨rfl, hw⟩; replace hw := hw.symm; subst hw)
          | (at_builtin; refine wpList_append1 rfl (.tmp 53) (.tmp 55) rfl 40 (.int .u64 0) 8 Tryz.underlying28 Tryz.info45 rfl rfl rfl HOWN.out hBw (by rfl) (by unfold maxLen; omega) (by omega) ?_; intro v' w' ho hb3 _))
        go_roundw
        case rel =>
          refine ⟨j + 1, by omega, by go_num, ?_, hbw.trans (hb3.mono (by have := HBE.out; omega))⟩
          rw [HST.out, u64s_append]
          exact ho
        case measure => simp [intOf]; omega
      · obtain rfl : j = count := by omega
        go_wp2
        refine bodyPost_ret (v := .tuple #[.slice A2 j c2, .int .i64 ((p + sc : Nat) : Int), .bool true]) ?_ rfl ⟨_, rfl, ?_, by rw [← HBE.out]; exact hbw⟩
        · simp [results, Tryz.results59, go_sem]
        have := HOWN.out
        rw [← hlen, List.take_length] at this
        rw [hlen] at this ⊢
        exact this
  · have hno : numsOk size count p xs.length = false := by unfold numsOk; simpa using hok
    rw [hno, if_neg (by simp)]
    have hM : numL size (tk (size * count) (xs.drop p)) = [] := by
      unfold tk numL
      by_cases h2 : p ≤ xs.length
      · rw [if_neg (by rw [List.length_drop]; exact fun h => hok ⟨h2, h⟩)]; simp
      · rw [List.drop_of_length_le (by omega)]; split <;> simp
    rw [hM]
    have h1 : ¬ (count : Int) < 0 := by omega
    have h2 : ¬ (p : Int) < 0 := by omega
    clear hno hM hx
    go_enter Tryz.func59, Tryz.ntmps59
    by_cases h3 : p ≤ xs.length
    · have h3' : ¬ (p : Int) > (xs.length : Int) := by omega
      have h4 : (count : Int) > ((xs.length : Int) - (p : Int)) / (size : Int) := by rcases hs with rfl | rfl <;> omega
      go_wp2
      refine bodyPost_ret (v := .tuple #[.slice none 0 0, .int .i64 0, .bool false]) ?_ rfl ⟨_, rfl, World.ownsRow_nil _ _ _ _, brefl w⟩
      simp [results, Tryz.results59, go_sem]
    · have h3' : (p : Int) > (xs.length : Int) := by omega
      go_wp2
      refine bodyPost_ret (v := .tuple #[.slice none 0 0, .int .i64 0, .bool false]) ?_ rfl ⟨_, rfl, World.ownsRow_nil _ _ _ _, brefl w⟩
      simp [results, Tryz.results59, go_sem]
end Go.Proofs.YthonbfojpbfmgaaGreatDoor

/- The plain answer's need, order, lanesAt. -/
set_option linter.unusedVariables false
set_option linter.unusedSimpArgs false
set_option linter.unnecessarySimpa false
set_option maxRecDepth 100000
namespace Go.Proofs.YthonbfojpbfmgaaGreatDoor
open Go.RowKit

theorem needN_eq (d w : Nat) (h1 : d ≤ 2 ^ w) (h2 : ∀ t, t < w → 2 ^ t < d) : needN d = w := by
  unfold needN
  cases w with
  | zero => rw [if_pos (by simp at h1; omega)]
  | succ t =>
    have h3 := h2 t (by omega)
    have h4 : 1 ≤ 2 ^ t := Nat.one_le_two_pow
    rw [if_neg (by omega)]
    have h5 : (d - 1).log2 = t := (Nat.log2_eq_iff (by omega)).2 ⟨by omega, by omega⟩
    omega
set_option maxHeartbeats 1000000 in
theorem need_any (d : Nat) (w : World) (hd : d ≤ 256) : Calls Tryz.prog 163 #[.int .i64 d] w fun e w' => e = .returned (.int .i64 (needN d : Nat)) ∧ w' = w := by
  go_enter Tryz.func163, Tryz.ntmps163
  go_wp2
  go_loop [3] (fun i => ∃ k : Nat, k ≤ 8 ∧ i = .int .i64 k ∧ ∀ t, t < k → 2 ^ t < d) (fun i => 9 - (intOf i).toNat)
  case atStart => exact ⟨0, by omega, rfl, fun t h => absurd h (Nat.not_lt_zero t)⟩
  case round =>
    obtain ⟨k, hk, rfl, hall⟩ := hrel
    have HALL := hid hall
    clear hall
    obtain ⟨pw, hpw⟩ : ∃ pw, 2 ^ k = pw := ⟨_, rfl⟩
    have hpl : pw ≤ 256 := by rw [← hpw]; exact Nat.le_trans (Nat.pow_le_pow_right (by omega) hk) (by decide)
    have hk8 : pw < d → k < 8 := by
      intro h
      by_cases h8 : k = 8
      · subst h8; rw [show (2 : Nat) ^ 8 = 256 from rfl] at hpw; omega
      · omega
    have hpi : (2 : Int) ^ k = (pw : Int) := by rw [← hpw]; simp
    have HPW := hid hpw
    clear hpw
    by_cases hlt : pw < d
    · have hk7 := hk8 hlt
      have hli : (pw : Int) < (d : Int) := by omega
      clear hk8
      go_wp2
      go_round
      case rel =>
        refine ⟨k + 1, by omega, by go_num, fun t ht => ?_⟩
        by_cases htk : t = k
        · subst htk; rw [HPW.out]; exact hlt
        · exact HALL.out t (by omega)
      case measure => simp [intOf]; omega
    · have hli : ¬ (pw : Int) < (d : Int) := by omega
      clear hk8
      go_wp2
      go_ret
      exact ⟨ret_i64 (by rw [needN_eq d k (by rw [HPW.out]; omega) HALL.out]), rfl⟩

def ordS (a b : ByteArray) : Int := if ltS a b = true then -1 else if (!(ltS a b || eqS a b)) = true then 1 else 0
end Go.Proofs.YthonbfojpbfmgaaGreatDoor

/- Package chunk: the parts of a payload off the reader. -/
set_option linter.unusedVariables false
set_option linter.unusedSimpArgs false
set_option linter.unnecessarySimpa false
set_option maxRecDepth 100000
namespace Go.Proofs.YthonbfojpbfmgaaGreatDoor
open Go.RowKit

set_option maxHeartbeats 4000000 in
theorem readLanes_I (w0 w : World) (g gr : Nat) (xs : List Nat) (s : Bool) (rows codec wd k : Int) (nulls list ends lanes kind bef : Value) (base op : Int) (lim : Nat)
    (hT : Tab w0) (hc : Row w g 111 (ck_I rows codec wd nulls k list ends base lanes kind bef)) (hr : RdrAt w0 w gr xs s) (hne : g ≠ gr) (hg0 : w0.heap.size ≤ g) (hgs : gr < w.heap.size)
    (hv : ∀ x ∈ xs, x < 256) (hl : xs.length ≤ 16777216) (hlim : lim < 18446744073709551616) :
    Calls Tryz.prog 205 #[.pointer (some ⟨g, 0, none⟩), .pointer (some ⟨gr, 0, none⟩), .int .i64 op, .int .u64 lim] w fun e w' =>
      e = .returned (.bool (lanesB wd k op (restW xs) lim)) ∧ ∃ v, Row w' g 111 (ck_I rows codec wd nulls k list ends base v kind bef) ∧
        w'.ownsRow w.heap.size 40 1 v (restW xs).length (u64s (restW xs)) ∧ RdrAt w0 w' gr (tkL (8 * (xs.length / 8)) xs) (tkS (8 * (xs.length / 8)) xs s) ∧ Chg g gr w w' := by
  obtain ⟨ws, hws⟩ : ∃ ws, restW xs = ws := ⟨_, rfl⟩
  have hwv : ∀ x ∈ ws, x < 18446744073709551616 := by rw [← hws]; exact numL_lt (tk_lt hv) (by omega)
  have hwl : ws.length ≤ 2097152 := by rw [← hws, restW_len]; omega
  obtain ⟨c, hcc⟩ : ∃ c, xs.length / 8 = c := ⟨_, rfl⟩
  obtain ⟨xl, hxl⟩ : ∃ xl, tkL (8 * c) xs = xl := ⟨_, rfl⟩
  obtain ⟨s1, hs1⟩ : ∃ s1, tkS (8 * c) xs s = s1 := ⟨_, rfl⟩
  have hU := U64s_any w0 w gr xs s c hr hgs hv hl (by omega)
  have hwc : numL 8 (tk (8 * c) xs) = ws := by rw [← hws, ← hcc]; rfl
  rw [hwc, hxl, hs1] at hU
  rw [hws, hcc, hxl, hs1]
  have HU := hid hU
  have HLEFT := hid (Left_any w0 w gr xs s hr hl)
  have hce : (xs.length : Int) / 8 = (c : Int) := by omega
  have HC := hid hc
  have HR := hid hr
  have HT := hid hT
  have HTL := hid hT.lt
  have hgw : g < w.heap.size := hc.lt
  obtain ⟨B, hB⟩ : ∃ B, w.heap.size = B := ⟨_, rfl⟩
  have HB := hid hB
  rw [hB]
  obtain ⟨wr, hwr⟩ : ∃ wr, cmpR wd k op ws lim = wr := ⟨_, rfl⟩
  obtain ⟨ok, hok⟩ : ∃ ok, cmpOk wd k op ws = ok := ⟨_, rfl⟩
  have hwrl : wr.length ≤ maxLen := by rw [← hwr]; have := cmpR_len wd k op ws lim; unfold maxLen; omega
  have hwrv : ∀ x ∈ wr, x < 18446744073709551616 := by rw [← hwr]; exact cmpR_lt wd k op ws lim
  have eB : lanesB wd k op ws lim = (ok && (rankR k k wr == 0)) := by rw [lanesB, hwr, hok]
  rw [eB]
  have HCMP := hid (fun (w2 : World) (v : Value) (h1 : Tab w2) (h2 : Rd w2 v ws.length 1 (u64s ws)) => Compare_any v ws wd k op lim w2 h1 h2 hwv hlim (by unfold maxLen; omega))
  rw [hwr, hok] at HCMP
  obtain ⟨rk, hrk⟩ : ∃ rk, rankR k k wr = rk := ⟨_, rfl⟩
  have HRANK := hid (fun (w2 : World) (v : Value) (h2 : Rd w2 v wr.length 1 (u64s wr)) => Rank_any v wr k k w2 h2 hwrv hwrl)
  rw [hrk] at HRANK ⊢
  clear hws hwc hxl hs1 hcc hU hc hr hT hB hwr hok eB hrk hv hwv
  go_enter Tryz.func205, Tryz.ntmps205
  go_upto_region 2 with (first
    | (go_at_call 84; refine HLEFT.out.mono ?_; rintro e w1 ⟨rfl, hw⟩; replace hw := hw.symm; subst hw)
    | (go_at_call 80; refine HU.out.mono ?_; rintro e w1 ⟨p, hp, rfl, hrow, hat, hch⟩; have HP := hid hp; have HROW := hid hrow; have HAT := hid hat; have HCH := hid hch; have HCK := hid (hch.row HC.out hne hne); have c8 : w1.cell? ⟨g, 0 + 8, none⟩ = some lanes := (by rw [HCK.out.cell]; rfl); have f8 := HCK.out.frozen (0 + 8); clear hp hrow hat hch))
  have HCK2 : Hid (Row (w1.setCell ⟨g, 8, none⟩ (.slice (some ⟨p, 0, none⟩) ws.length ws.length)) g 111 (ck_I rows codec wd nulls k list ends base (.slice (some ⟨p, 0, none⟩) ws.length ws.length) kind bef)) := hid (HCK.out.set 8 _)
  have HS := hid ((Chg.refl g gr w1).setCell g 8 (.slice (some ⟨p, 0, none⟩) ws.length ws.length) (.inl rfl))
  have hpB : B ≤ p := by have := HP.out; have := HB.out; omega
  have hpg : p ≠ g := by have := HB.out; omega
  have hpgr : p ≠ gr := by have := HB.out; omega
  have HAT2 := hid (HAT.out.chg ((Chg.refl g g w1).setCell g 8 (.slice (some ⟨p, 0, none⟩) ws.length ws.length) (.inl rfl)) (Ne.symm hne) (Ne.symm hne) hg0 hg0)
  have HROW2 := hid (HS.out.row HROW.out hpg hpgr)
  have HCH2 := hid ((Chg.wide' (a := g) HCH.out).trans HS.out)
  clear HCK HROW HAT HS HC HR HLEFT HU
  generalize w1.setCell ⟨g, 8, none⟩ (.slice (some ⟨p, 0, none⟩) ws.length ws.length) = w2 at *
  have hT2 : Hid (Tab w2) := hid (HT.out.mono HAT2.out.2.1 HTL.out)
  have HRD2 := hid (HROW2.out.rd' (n := ws.length) (by simp [u64s]) (by unfold maxLen; omega))
  have d8 : w2.cell? ⟨g, 0 + 8, none⟩ = some (.slice (some ⟨p, 0, none⟩) ws.length ws.length) := by rw [HCK2.out.cell]; rfl
  have d2 : w2.cell? ⟨g, 0 + 2, none⟩ = some (.int .i64 wd) := by rw [HCK2.out.cell]; rfl
  have d4 : w2.cell? ⟨g, 0 + 4, none⟩ = some (.int .i64 k) := by rw [HCK2.out.cell]; rfl
  have HC3 := hid (fun nd : Nat => HCMP.out (w2.drewN nd) _ (hT2.out.mono (bdrew (brefl w2) nd) hT2.out.lt) (HRD2.out.mono (bdrew (brefl w2) nd)))
  clear c8 f8 HCMP
  have d8' : w2.cell? ⟨g, 8, none⟩ = some (.slice (some ⟨p, 0, none⟩) ws.length ws.length) := by rw [HCK2.out.cell]; rfl
  have d2' : w2.cell? ⟨g, 2, none⟩ = some (.int .i64 wd) := by rw [HCK2.out.cell]; rfl
  have d4' : w2.cell? ⟨g, 4, none⟩ = some (.int .i64 k) := by rw [HCK2.out.cell]; rfl
  clear d8 d2 d4
  have hgw2 : g < w2.heap.size := HCK2.out.lt
  go_cut [9, 10] from 11 (fun s9 s10 wc => s10 = .bool ok ∧ Hid (Rd wc s9 wr.length 1 (u64s wr)) ∧ Hid (Below w2.heap.size w2 wc))
  case first =>
    go_region_held3 (fun w' => w'.cell? ⟨g, 8, none⟩ = some (.slice (some ⟨p, 0, none⟩) ws.length ws.length) ∧ w'.cell? ⟨g, 2, none⟩ = some (.int .i64 wd) ∧ w'.cell? ⟨g, 4, none⟩ = some (.int .i64 k)) (go_keep)
      (first | (go_at_call 52; refine (HC3.out 1).mono ?_; rintro e w3 ⟨r3, rfl, ho3, hb3⟩; have HO3 := hid ho3; have HB3 := hid hb3; obtain ⟨A3, c3, rfl, hc3, _, _, _⟩ := owns_form ho3; have k8 := (hb3.cell (p := ⟨g, 8, none⟩) hgw2).trans d8'; have k2 := (hb3.cell (p := ⟨g, 2, none⟩) hgw2).trans d2'; have k4 := (hb3.cell (p := ⟨g, 4, none⟩) hgw2).trans d4'; clear ho3 hb3 hc3))
    all_goals (go_wp2_with fail; go_meet)
    all_goals exact ⟨rfl, hid (owns_rd HO3.out), hid ((bdrew (brefl w2) _).trans HB3.out)⟩
  case rest =>
    obtain ⟨rfl, HW9, HB9⟩ := hcut
    have HCK3 : Hid (Row wc g 111 (ck_I rows codec wd nulls k list ends base (.slice (some ⟨p, 0, none⟩) ws.length ws.length) kind bef)) := hid (HCK2.out.mono HB9.out)
    have e4 : wc.cell? ⟨g, 4, none⟩ = some (.int .i64 k) := by rw [HCK3.out.cell]; rfl
    have HRK := hid (fun nd : Nat => HRANK.out (wc.drewN nd) _ (HW9.out.mono (bdrew (brefl wc) nd)))
    have HROW3 := hid (HROW2.out.mono HB9.out)
    have HAT3 := hid (HAT2.out.mono HB9.out)
    have HCH3 := hid (HCH2.out.then_below HB9.out HCH2.out.size)
    clear HCK2 HROW2 HAT2 HCH2 HB9 d8' d2' d4' HC3 HRANK HW9 HRD2 hT2
    cases ok
    case' false =>
      go_wp2_with fail
      go_quiet (fail)
    case' true =>
      go_wp2_with fail
      go_quiet (first | (go_at_call 36; refine Calls.quiet_of (HRK.out _)))
    all_goals go_wp2_with fail
    all_goals go_ret
    all_goals exact ⟨rfl, _, HCK3.out.drewN nq, (HROW3.out.drewN nq).owns hpB (by simp [u64s]) (by unfold maxLen; omega), HAT3.out.mono (bdrew (brefl wc) nq), HCH3.out.drewN nq⟩

theorem m_readList_I : ∀ w : World, (method 386 68 (.agg #[]) "colscan/chunk.readList").run Tryz.prog w = .ok (274, .agg #[]) w := fun _ => by kernel_rfl
/-- what reading a payload off the reader leaves -/
structure Out_I where
  b : Bool
  left : List Nat
  short : Bool
  list : List Int
  ends : List Nat
  lanes : List Nat
/-- .. as memory has it -/
structure OutAt_I (w0 w w' : World) (B g gr : Nat) (rows codec wd k : Int) (nulls kind bef : Value) (base : Int) (o : Out_I) : Prop where
  ck : ∃ lv ev nv, Row w' g 111 (ck_I rows codec wd nulls k lv ev base nv kind bef) ∧ w'.ownsRow B 2 1 lv o.list.length (i64s o.list) ∧
    w'.ownsRow B 3 1 ev o.ends.length (nIs o.ends) ∧ w'.ownsRow B 40 1 nv o.lanes.length (u64s o.lanes)
  rdr : RdrAt w0 w' gr o.left o.short
  chg : Chg g gr w w'
def kind_I : Value := .iface 68 (.agg #[])

def outPlain_I (wd : Int) (k : Nat) (xs : List Nat) (s : Bool) : Out_I :=
  { b := (rdI k xs s).2.1 && decide (wd = 0), left := (rdI k xs s).2.2.1, short := (rdI k xs s).2.2.2, list := (rdI k xs s).1, ends := [], lanes := [] }

set_option maxHeartbeats 4000000 in
theorem readPlain_I (w0 w : World) (g gr : Nat) (xs : List Nat) (s : Bool) (rows codec wd : Int) (k : Nat) (nulls bef : Value) (base : Int)
    (hc : Row w g 111 (ck_I rows codec wd nulls k nilS nilS base nilS kind_I bef)) (hr : RdrAt w0 w gr xs s) (hne : g ≠ gr) (hg0 : w0.heap.size ≤ g) (hgs : gr < w.heap.size)
    (hv : ∀ x ∈ xs, x < 256) (hl : xs.length ≤ 16777216) (hk : k ≤ 65536) :
    Calls Tryz.prog 156 #[.pointer (some ⟨g, 0, none⟩), .pointer (some ⟨gr, 0, none⟩)] w fun e w' =>
      e = .returned (.bool (outPlain_I wd k xs s).b) ∧ OutAt_I w0 w w' w.heap.size g gr rows codec wd k nulls kind_I bef base (outPlain_I wd k xs s) := by
  have HC := hid hc
  have HR := hid hr
  have HRL := hid (fun nd : Nat => readListI_any w0 (w.drewN nd) gr xs s k (hr.mono (bdrew (brefl w) nd)) hgs hv hl (by omega))
  have d9 : w.cell? ⟨g, 9, none⟩ = some (.iface 68 (.agg #[])) := by rw [hc.cell]; rfl
  have d4 : w.cell? ⟨g, 4, none⟩ = some (.int .i64 k) := by rw [hc.cell]; rfl
  have hgw : g < w.heap.size := hc.lt
  obtain ⟨vals, b, xl, s1, hR⟩ : ∃ vals b xl s1, rdI k xs s = (vals, b, xl, s1) := ⟨_, _, _, _, rfl⟩
  have eO : outPlain_I wd k xs s = { b := b && decide (wd = 0), left := xl, short := s1, list := vals, ends := [], lanes := [] } := by unfold outPlain_I; rw [hR]
  rw [eO]
  rw [hR] at HRL
  clear hc hr hv eO hR
  obtain ⟨B, hB⟩ : ∃ B, w.heap.size = B := ⟨_, rfl⟩
  have HB := hid hB
  rw [hB]
  clear hB
  have hm := m_readList_I
  go_enter Tryz.func156, Tryz.ntmps156
  go_upto_region 1 with fail
  go_cut [5, 6] from 7 (fun s5 s6 wc => ∃ A c, s5 = .slice A vals.length c ∧ s6 = .bool b ∧ Hid (wc.ownsRow B 2 1 (.slice A vals.length c) vals.length (i64s vals)) ∧ Hid (RdrAt w0 wc gr xl s1) ∧ Hid (Chg g gr w wc) ∧ Hid (Row wc g 111 (ck_I rows codec wd nulls k nilS nilS base nilS kind_I bef)))
  case first =>
    go_region_held3 (fun w' => w'.cell? ⟨g, 9, none⟩ = some (.iface 68 (.agg #[])) ∧ w'.cell? ⟨g, 4, none⟩ = some (.int .i64 k)) (go_keep)
      (first | (go_at_call 274; refine (HRL.out 1).mono ?_; rintro e w3 ⟨v3, rfl, ho3, ha3, hc3⟩; have k9 := (hc3.cell g 9 hgw hne hne).trans d9; have k4 := (hc3.cell g 4 hgw hne hne).trans d4; have HO3 := hid ho3; have HA3 := hid ha3; have HC3 := hid (Chg.wide' (a := g) hc3); have HCK3 := hid (hc3.row (HC.out.drewN 1) hne hne); obtain ⟨A3, c3, rfl, hcc3, _, _, _⟩ := owns_form ho3; clear ho3 ha3 hc3 hcc3))
    all_goals (go_wp2_with fail; go_meet)
    all_goals exact ⟨_, _, rfl, rfl, hid (by rw [← HB.out]; exact HO3.out), HA3, hid (((Chg.refl g gr w).drewN 1).trans HC3.out), HCK3⟩
  case rest =>
    obtain ⟨A3, c3, rfl, rfl, HO3, HA3, HC3, HCK3⟩ := hcut
    have e5 : wc.cell? ⟨g, 0 + 5, none⟩ = some nilS := by rw [HCK3.out.cell]; rfl
    have e2 : wc.cell? ⟨g, 0 + 2, none⟩ = some (.int .i64 wd) := by rw [HCK3.out.cell]; rfl
    have f5 := HCK3.out.frozen (0 + 5)
    have hFIN : ∀ bb : Bool, OutAt_I w0 w (wc.setCell ⟨g, 5, none⟩ (.slice A3 vals.length c3)) B g gr rows codec wd k nulls kind_I bef base { b := bb, left := xl, short := s1, list := vals, ends := [], lanes := [] } := by
      intro bb
      have hch := (Chg.refl g g wc).setCell g 5 (.slice A3 vals.length c3) (.inl rfl)
      have hgB : g < B := by have := HB.out; omega
      exact ⟨⟨_, _, _, HCK3.out.set 5 _, owns_chg HO3.out hch hgB hgB, World.ownsRow_nil _ _ _ _, World.ownsRow_nil _ _ _ _⟩, HA3.out.chg hch (Ne.symm hne) (Ne.symm hne) hg0 hg0, HC3.out.setCell g 5 _ (.inl rfl)⟩
    have HFIN := hid hFIN
    clear hFIN HC HR HRL d9 d4 hm
    cases b
    case' false => go_wp2
    case' true => go_wp2
    all_goals go_ret
    all_goals exact ⟨by by_cases h : wd = 0 <;> simp [h], HFIN.out _⟩
end Go.Proofs.YthonbfojpbfmgaaGreatDoor

/- Package chunk: dictionaries, runs, offsets and whole payloads off the reader. -/
set_option linter.unusedVariables false
set_option linter.unusedSimpArgs false
set_option linter.unnecessarySimpa false
set_option maxRecDepth 100000
namespace Go.Proofs.YthonbfojpbfmgaaGreatDoor
open Go.RowKit

theorem owns_mono_I {w : World} {B C : Nat} {e : TypeId} {v : Value} {n : Nat} {cs : List Value} (h : w.ownsRow B e 1 v n cs) (hC : C ≤ B) : w.ownsRow C e 1 v n cs := by
  refine ⟨h.1, ?_⟩
  rcases h.2 with hn | ⟨g, cap, cur, rfl, hb', hg, r⟩
  · exact .inl hn
  · exact .inr ⟨g, cap, cur, rfl, Nat.le_trans hC hb', hg, r⟩
def outDict_I (wd : Int) (k : Nat) (xs : List Nat) (s : Bool) : Out_I :=
  if 256 < L.wordOf 8 (tk 4 xs) ∨ wd ≠ (needN (L.wordOf 8 (tk 4 xs)) : Int) then { b := false, left := tkL 4 xs, short := tkS 4 xs s, list := [], ends := [], lanes := [] }
  else match rdI (L.wordOf 8 (tk 4 xs)) (tkL 4 xs) (tkS 4 xs s) with
    | (vals, ok, xl, s1) =>
      if (ok && noPair geI vals) = true then { b := lanesB wd k 6 (restW xl) (L.wordOf 8 (tk 4 xs)), left := tkL (8 * (xl.length / 8)) xl, short := tkS (8 * (xl.length / 8)) xl s1, list := vals, ends := [], lanes := restW xl }
      else { b := false, left := xl, short := s1, list := vals, ends := [], lanes := [] }

set_option maxHeartbeats 8000000 in
theorem readDict_I (w0 w : World) (g gr : Nat) (xs : List Nat) (s : Bool) (rows codec wd : Int) (k : Nat) (nulls bef : Value) (base : Int) (hT : Tab w0)
    (hc : Row w g 111 (ck_I rows codec wd nulls k nilS nilS base nilS kind_I bef)) (hr : RdrAt w0 w gr xs s) (hne : g ≠ gr) (hg0 : w0.heap.size ≤ g) (hgs : gr < w.heap.size)
    (hv : ∀ x ∈ xs, x < 256) (hl : xs.length ≤ 16777216) (hk : k ≤ 65536) :
    Calls Tryz.prog 157 #[.pointer (some ⟨g, 0, none⟩), .pointer (some ⟨gr, 0, none⟩)] w fun e w' =>
      e = .returned (.bool (outDict_I wd k xs s).b) ∧ OutAt_I w0 w w' w.heap.size g gr rows codec wd k nulls kind_I bef base (outDict_I wd k xs s) := by
  have hU := U32_any w0 w gr xs s hr hv hl
  have hd32 : L.wordOf 8 (tk 4 xs) < 4294967296 := wordOf4_lt _ (tk_lt hv) (tk_le 4 xs)
  obtain ⟨d, hd⟩ : ∃ d, L.wordOf 8 (tk 4 xs) = d := ⟨_, rfl⟩
  obtain ⟨xs1, hx1⟩ : ∃ xs1, tkL 4 xs = xs1 := ⟨_, rfl⟩
  obtain ⟨s1, hs1⟩ : ∃ s1, tkS 4 xs s = s1 := ⟨_, rfl⟩
  have hxl1 : xs1.length ≤ 16777216 := by rw [← hx1]; exact Nat.le_trans (tkL_le _ _) hl
  have hxv1 : ∀ x ∈ xs1, x < 256 := by rw [← hx1]; exact tkL_lt hv
  obtain ⟨O, hO⟩ : ∃ O, outDict_I wd k xs s = O := ⟨_, rfl⟩
  have HO := hid hO
  unfold outDict_I at HO
  rw [hd, hx1, hs1] at HO
  rw [hd, hx1, hs1] at hU
  rw [hd] at hd32
  rw [hO]
  have HU := hid hU
  have HC := hid hc
  have HT := hid hT
  have hgw : g < w.heap.size := hc.lt
  have d2 : w.cell? ⟨g, 2, none⟩ = some (.int .i64 wd) := by rw [hc.cell]; rfl
  clear hU hc hr hT hd hx1 hs1 hO hv hl
  obtain ⟨B, hB⟩ : ∃ B, w.heap.size = B := ⟨_, rfl⟩
  have HB := hid hB
  rw [hB]
  clear hB
  have hm := m_readList_I
  go_enter Tryz.func157, Tryz.ntmps157
  go_upto_region 2 with (first | (go_at_call 183; refine HU.out.mono ?_; rintro e w1 ⟨rfl, ha1, hc1⟩; have HA1 := hid ha1; have HC1 := hid (Chg.wide' (a := g) hc1); have HCK1 := hid (hc1.row HC.out hne hne); clear ha1 hc1))
  have e2 : w1.cell? ⟨g, 2, none⟩ = some (.int .i64 wd) := by rw [HCK1.out.cell]; rfl
  have hgr1 : gr < w1.heap.size := Nat.lt_of_lt_of_le hgs HC1.out.size
  have hgB : g < B := by have := HB.out; omega
  have hB1 : B ≤ w1.heap.size := by have := HB.out; have := HC1.out.size; omega
  have HFAIL : Hid (∀ n, OutAt_I w0 w (w1.drewN n) B g gr rows codec wd k nulls kind_I bef base { b := false, left := xs1, short := s1, list := [], ends := [], lanes := [] }) := hid (fun n =>
    ⟨⟨_, _, _, HCK1.out.drewN n, World.ownsRow_nil _ _ _ _, World.ownsRow_nil _ _ _ _, World.ownsRow_nil _ _ _ _⟩, HA1.out.mono (bdrew (brefl w1) n), HC1.out.drewN n⟩)
  clear HU HC d2
  by_cases hbig : 256 < d
  · have hO : O = { b := false, left := xs1, short := s1, list := [], ends := [], lanes := [] } := by rw [← HO.out, if_pos (.inl hbig)]
    subst hO
    have hb1 : (d : Int) > 256 := by omega
    go_wp2_with fail
    go_quiet (fail)
    go_wp2_with fail
    go_ret
    exact ⟨rfl, HFAIL.out _⟩
  · have hb1 : ¬ (d : Int) > 256 := by omega
    obtain ⟨nd, hnd⟩ : ∃ nd, needN d = nd := ⟨_, rfl⟩
    have HN := hid (fun w2 : World => Need_any d w2 (by omega))
    rw [hnd] at HN HO
    clear hnd
    by_cases hw : wd = (nd : Int)
    · have hw1 : (wd != (nd : Int)) = false := by rw [hw]; simp
      have hO2 := HO.out
      rw [if_neg (fun h => h.elim (fun h => hbig h) (fun h => h hw))] at hO2
      obtain ⟨vals, ok, xl, s2, hR⟩ : ∃ vals ok xl s2, rdI d xs1 s1 = (vals, ok, xl, s2) := ⟨_, _, _, _, rfl⟩
      rw [hR] at hO2
      simp only at hO2
      have hxl : xl.length ≤ 16777216 := by have := (rd_left_I d xs1 s1).1; rw [hR] at this; exact Nat.le_trans this hxl1
      have hxv : ∀ x ∈ xl, x < 256 := by have := (rd_left_I d xs1 s1).2 256 hxv1; rw [hR] at this; exact this
      have hvl : vals.length ≤ 16777216 := by have := rd_len_I d xs1 s1 hxl1; rw [hR] at this; exact this
      have HO2 := hid hO2
      have HRL := hid (fun (w2 : World) (h : RdrAt w0 w2 gr xs1 s1) (h2 : gr < w2.heap.size) => readListI_any w0 w2 gr xs1 s1 d h h2 hxv1 hxl1 (by omega))
      rw [hR] at HRL
      have HHW := hid hw
      clear hO2 hR hw HO HFAIL
      go_wp2_with fail
      go_quiet (first | (go_at_call 184; refine Calls.quiet_of_same (HN.out _)))
      have HA2 := hid (HA1.out.mono (bdrew (brefl w1) nq))
      have HC2 := hid (HC1.out.drewN nq)
      have HCK2 := hid (HCK1.out.drewN nq)
      have hgr2 : gr < (w1.drewN nq).heap.size := hgr1
      have hB2 : B ≤ (w1.drewN nq).heap.size := hB1
      clear HA1 HC1 HCK1 e2 HN
      generalize w1.drewN nq = w2 at *
      have d9 : w2.cell? ⟨g, 0 + 9, none⟩ = some (.iface 68 (.agg #[])) := by rw [HCK2.out.cell]; rfl
      go_wp2_with fail
      refine (HRL.out w2 HA2.out hgr2).mono ?_
      rintro e w3 ⟨v3, rfl, ho3, ha3, hc3⟩
      obtain ⟨A3, c3, rfl, hcc3, _, _, _⟩ := owns_form ho3
      have HO3 := hid (owns_mono_I ho3 hB2)
      have HA3 := hid ha3
      have HC3 := hid (HC2.out.trans (Chg.wide' (a := g) hc3))
      have HCK3 := hid (hc3.row HCK2.out hne hne)
      have e5 : w3.cell? ⟨g, 0 + 5, none⟩ = some nilS := by rw [HCK3.out.cell]; rfl
      have f5 := HCK3.out.frozen (0 + 5)
      have hgr3 : gr < w3.heap.size := Nat.lt_of_lt_of_le hgs HC3.out.size
      have hch4 := (Chg.refl g g w3).setCell g 5 (.slice A3 vals.length c3) (.inl rfl)
      have HCK4 : Hid (Row (w3.setCell ⟨g, 5, none⟩ (.slice A3 vals.length c3)) g 111 (ck_I rows codec wd nulls k (.slice A3 vals.length c3) nilS base nilS kind_I bef)) := hid (HCK3.out.set 5 _)
      have HO4 := hid (owns_chg HO3.out hch4 hgB hgB)
      have HA4 := hid (HA3.out.chg hch4 (Ne.symm hne) (Ne.symm hne) hg0 hg0)
      have HC4 := hid (HC3.out.setCell g 5 (.slice A3 vals.length c3) (.inl rfl))
      have hgr4 : gr < (w3.setCell ⟨g, 5, none⟩ (.slice A3 vals.length c3)).heap.size := Nat.lt_of_lt_of_le hgr3 hch4.size
      have hB4 : B ≤ (w3.setCell ⟨g, 5, none⟩ (.slice A3 vals.length c3)).heap.size := Nat.le_trans hB2 (Nat.le_trans hc3.size hch4.size)
      clear ho3 ha3 hc3 hcc3 HA2 HC2 HCK2 d9 HRL HO3 HA3 HC3 HCK3 hch4 hm hgr2 hgr3 hB2
      go_upto_region 6 with fail
      clear e5 f5
      generalize w3.setCell ⟨g, 5, none⟩ (.slice A3 vals.length c3) = w4 at *
      have HASC := hid (ascendingI_any _ vals w4 (owns_rd HO4.out) (by unfold maxLen; omega))
      have HLN := hid (fun n : Nat => readLanes_I w0 (w4.drewN n) g gr xl s2 rows codec wd k nulls (.slice A3 vals.length c3) nilS nilS kind_I bef base 6 d HT.out (HCK4.out.drewN n) (HA4.out.mono (bdrew (brefl w4) n)) hne hg0 hgr4 hxv hxl (by omega))
      have HO5 := hid (fun n : Nat => (⟨⟨_, _, _, HCK4.out.drewN n, owns_below HO4.out (bdrew (brefl w4) n), World.ownsRow_nil _ _ _ _, World.ownsRow_nil _ _ _ _⟩, HA4.out.mono (bdrew (brefl w4) n), HC4.out.drewN n⟩ : OutAt_I w0 w (w4.drewN n) B g gr rows codec wd k nulls kind_I bef base { b := false, left := xl, short := s2, list := vals, ends := [], lanes := [] }))
      obtain ⟨asc, hasc⟩ : ∃ asc, noPair geI vals = asc := ⟨_, rfl⟩
      rw [hasc] at HASC HO2
      clear hasc
      cases ok
      case' false =>
        have hO := HO2.out
        rw [if_neg (by simp)] at hO
        subst hO
        go_wp2_with fail
        go_ret
        exact ⟨rfl, HO5.out 0⟩
      cases asc
      case' false =>
        have hO := HO2.out
        rw [if_neg (by simp)] at hO
        subst hO
        go_wp2_with (go_at_call 204; refine HASC.out.mono ?_; rintro e w5 ⟨rfl, n5, rfl⟩)
        go_ret
        exact ⟨rfl, HO5.out _⟩
      case' true =>
        have hO := HO2.out
        rw [if_pos (by rfl)] at hO
        obtain ⟨lb, hlb⟩ : ∃ lb, lanesB wd k 6 (restW xl) d = lb := ⟨_, rfl⟩
        rw [hlb] at HLN hO
        clear HO5 HO2 hlb
        subst hO
        go_wp2_with (first
          | (go_at_call 204; refine HASC.out.mono ?_; rintro e w5 ⟨rfl, n5, rfl⟩)
          | (go_at_call 205; refine (HLN.out n5).mono ?_; rintro e w6 ⟨rfl, v6, hr6, ho6, ha6, hc6⟩; have HR6 := hid hr6; have HO6 := hid (owns_mono_I ho6 hB4); have HA6 := hid ha6; have HC6 := hid hc6; have HO46 := hid (owns_chg (owns_below HO4.out (bdrew (brefl w4) n5)) hc6 hgB (by have := HB.out; omega)); clear hr6 ho6 ha6 hc6))
        go_ret
        exact ⟨rfl, ⟨_, _, _, HR6.out, HO46.out, World.ownsRow_nil _ _ _ _, HO6.out⟩, HA6.out, (HC4.out.drewN n5).trans HC6.out⟩
    · have hO : O = { b := false, left := xs1, short := s1, list := [], ends := [], lanes := [] } := by rw [← HO.out, if_pos (.inr hw)]
      subst hO
      have hw1 : (wd != (nd : Int)) = true := by rw [bne_iff_ne]; exact hw
      go_wp2_with fail
      go_quiet (first | (go_at_call 184; refine Calls.quiet_of_same (HN.out _)))
      go_wp2_with fail
      go_ret
      exact ⟨rfl, HFAIL.out _⟩
end Go.Proofs.YthonbfojpbfmgaaGreatDoor
