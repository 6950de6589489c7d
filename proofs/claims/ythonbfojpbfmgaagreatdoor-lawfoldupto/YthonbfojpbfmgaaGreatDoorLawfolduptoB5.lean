/- Package chunk: the least width for so many entries. -/
import Derived.Test.YthonbfojpbfmgaaGreatDoorLawfolduptoB4
import Derived.Lib.Strings
import Derived.Lib.Slices
import Derived.Lib.Small
import Derived.Lib.Walk
import Derived.Lib.BitFns
import Derived.Test.YthonbfojpbfmgaaGreatDoorLawfolduptoB3
import Derived.Laws.BytesString
import Derived.Laws.DeepStrings4
set_option linter.unusedVariables false
set_option linter.unusedSimpArgs false
set_option linter.unnecessarySimpa false
namespace Go.Proofs.YthonbfojpbfmgaaGreatDoor
open Go.RowKit

def needN (d : Nat) : Nat := if d < 2 then 0 else Nat.log2 (d - 1) + 1
theorem need_tab : ∀ i : Fin 256, Lib.bitLen i.val = if i.val = 0 then 0 else Nat.log2 i.val + 1 := by decide +kernel

set_option maxHeartbeats 4000000 in
set_option maxRecDepth 100000 in
theorem Len64_int (x : Int) (w : World) (h0 : 0 ≤ x) (h1 : x ≤ 255) :
    Calls Tryz.prog 203 #[.int .u64 x] w fun e w' => e = .returned (.int .i64 (Lib.bitLen x.toNat)) ∧ w' = w := by
  go_enter Tryz.func203, Tryz.ntmps203
  have e1 : ¬ (4294967296 ≤ x) := by omega
  have e2 : ¬ (65536 ≤ x) := by omega
  have e3 : ¬ (256 ≤ x) := by omega
  go_wp2
  go_ret
  refine ⟨congrArg Ending.returned (congrArg (Value.int IntKind.i64) ?_), rfl⟩
  have l := Lib.bitLen_le8' x h0 (by omega)
  have e4 : Lib.len8 x = (Lib.bitLen x.toNat : Int) := Lib.len8_of x h0 h1
  rw [e4]
  generalize Lib.bitLen x.toNat = t at *
  unfold wrap64
  omega
theorem Len64_any (x : Nat) (w : World) (hx : x < 256) (h1 : 1 ≤ x) :
    Calls Tryz.prog 203 #[.int .u64 x] w fun e w' => e = .returned (.int .i64 (Nat.log2 x + 1 : Nat)) ∧ w' = w := by
  have h := need_tab ⟨x, hx⟩
  simp only at h
  rw [if_neg (by omega)] at h
  have := Len64_int x w (by omega) (by omega)
  rw [Int.toNat_natCast, h] at this
  exact this
set_option maxRecDepth 100000 in
theorem Len_any (x : Nat) (w : World) (hx : x < 256) (h1 : 1 ≤ x) :
    Calls Tryz.prog 155 #[.int .u64 x] w fun e w' => e = .returned (.int .i64 (Nat.log2 x + 1 : Nat)) ∧ w' = w := by
  go_enter Tryz.func155, Tryz.ntmps155
  go_wp2_with (go_at_call 203; refine (Len64_any x _ hx h1).mono ?_; rintro e w' ⟨rfl, rfl⟩)
  go_ret
  exact ⟨rfl, rfl⟩
set_option maxRecDepth 100000 in
theorem Need_any (d : Nat) (w : World) (hd : d ≤ 256) :
    Calls Tryz.prog 184 #[.int .i64 d] w fun e w' => e = .returned (.int .i64 (needN d : Nat)) ∧ w' = w := by
  go_enter Tryz.func184, Tryz.ntmps184
  by_cases h : d < 2
  · go_wp2
    go_ret
    exact ⟨by simp [needN, h], rfl⟩
  · have e1 : (d : Int) - 1 = ((d - 1 : Nat) : Int) := by omega
    have HC := hid (fun w2 : World => Len_any (d - 1) w2 (by omega) (by omega))
    go_wp2_with (go_at_call 155; refine (HC.out _).mono ?_; rintro e w' ⟨rfl, rfl⟩)
    go_ret
    exact ⟨by simp [needN, h], rfl⟩
end Go.Proofs.YthonbfojpbfmgaaGreatDoor

/- Package chunk: counts of the bits before each word; a packing's lane; the first end of a run behind a place; the ends of texts. -/
set_option linter.unusedVariables false
set_option linter.unusedSimpArgs false
set_option linter.unnecessarySimpa false
set_option maxRecDepth 20000
namespace Go.Proofs.YthonbfojpbfmgaaGreatDoor
open Go.RowKit

theorem popL_snoc (ws : List Nat) (x : Nat) : popL (ws ++ [x]) = popL ws + L.popN 64 x := by rw [popL_append]; simp [popL]
/-- for each word the bits set in the words before it -/
def befL (ws : List Nat) : List Int := (List.range ws.length).map fun k => (popL (ws.take k) : Int)
theorem befL_length (ws : List Nat) : (befL ws).length = ws.length := by simp [befL]
theorem befL_get (ws : List Nat) (k : Nat) (h : k < ws.length) : (befL ws).getD k 0 = (popL (ws.take k) : Int) := by
  simp [befL, List.getD, List.getElem?_map, List.getElem?_range h]

set_option maxHeartbeats 2000000 in
theorem countBefore_any (v : Value) (xs : List Nat) (w : World) (hx : Rd w v xs.length 1 (u64s xs)) (hv : ∀ x ∈ xs, x < 18446744073709551616) (hl : xs.length ≤ 65536) :
    Calls Tryz.prog 81 #[v] w fun e w' => e = .returned (.slice (some ⟨w.heap.size, 0, none⟩) xs.length xs.length) ∧ Row w' w.heap.size 3 (i64s (befL xs)) ∧ Below w.heap.size w w' := by
  obtain ⟨A, ca, rfl, hlc, hcm, hA⟩ := hx.form
  have HX := hid hx
  clear hx hA
  obtain ⟨p, hp⟩ : ∃ p, w.heap.size = p := ⟨_, rfl⟩
  have HP := hid hp
  rw [hp]
  clear hp
  go_enter Tryz.func81, Tryz.ntmps81
  go_wp2
  refine upon_make 3 (.int .i64 0) 8 Tryz.underlying92 Tryz.infoI64 rfl xs.length (by omega) (by omega) (by omega) (by unfold maxLen; omega) ?_
  intro w1 hrow hb1 hsz1
  rw [HP.out] at hrow hb1 hsz1 ⊢
  have HROW := hid hrow
  have HB1 := hid hb1
  have HX1 := hid (HX.out.mono (by rw [HP.out]; exact hb1))
  have hp1 : p < w1.heap.size := by omega
  clear hrow hb1
  go_wp2
  go_loopw [4, 12] (fun u i wr => ∃ j : Nat, j ≤ xs.length ∧ i = .int .i64 j ∧ u = .int .i64 (popL (xs.take j) : Nat) ∧ Row wr p 3 (i64s ((List.range j).map fun k => (popL (xs.take k) : Int)) ++ List.replicate (xs.length - j) (.int .i64 0)) ∧ Below p w1 wr) (fun _ i _ => xs.length - (intOf i).toNat)
  case atStart => exact ⟨0, by omega, rfl, by simp [popL], by simpa [i64s] using HROW.out, Below.refl _ _⟩
  case round =>
    obtain ⟨j, hj, rfl, rfl, hr, hb⟩ := hrel
    by_cases hlt : j < xs.length
    · have hcell : wr.cell? ⟨p, j, none⟩ = some (.int .i64 0) := by
        rw [hr.cell]; exact get_fill _ _ _ _ (by simp [i64s]) (by omega)
      have hfr := hr.frozen j
      have hx2 : Rd wr (.slice A xs.length ca) xs.length 1 (u64s xs) := HX.out.mono (by rw [HP.out]; exact HB1.out.trans hb)
      obtain ⟨A', ca', he, _, _, hA⟩ := hx2.form
      cases he
      obtain ⟨b, o, rfl, hs⟩ := hA (by omega)
      have c1 := hs.word j hlt
      have hvj : xs.getD j 0 < 18446744073709551616 := hv _ (by simp [List.getD, List.getElem?_eq_getElem hlt])
      have hsn : popL (xs.take (j + 1)) = popL (xs.take j) + L.popN 64 (xs.getD j 0) := by
        rw [List.take_succ_eq_append_getElem hlt, popL_snoc]
        simp [List.getD, List.getElem?_eq_getElem hlt]
      have hpl := popL_le (xs.take j)
      have hpl2 := L.popN_le 64 (xs.getD j 0)
      rw [List.length_take, Nat.min_eq_left hj] at hpl
      have HRW := hid hr
      have HSN := hid hsn
      clear hr hs hA hx2 hsn
      generalize ha : popL (xs.take j) = a at *
      have HA' := hid ha
      clear ha
      generalize hq : xs.getD j 0 = q at *
      clear hq
      go_wp2_with (go_at_call 117; refine (onesCount_any q _ hvj).mono ?_; rintro e w3 ⟨rfl, hw⟩; subst hw)
      go_roundw
      case rel =>
        refine ⟨j + 1, by omega, by go_num, ?_, ?_, below_set hb _ _ _ (Nat.le_refl _)⟩
        · rw [HSN.out]; go_num
        · have hss := HRW.out.set j (.int .i64 (a : Nat))
          rw [set_fill _ _ _ _ _ (by simp [i64s]) (by omega)] at hss
          rw [List.range_succ, List.map_append, i64s_append, List.map_singleton, HA'.out, ← Nat.sub_sub xs.length j 1]
          exact hss
      case measure => simp [intOf]; omega
    · obtain rfl : j = xs.length := by omega
      go_wp2
      go_ret
      refine ⟨rfl, ?_, HB1.out.trans hb⟩
      have := hr
      rw [Nat.sub_self, List.replicate_zero, List.append_nil] at this
      exact this
end Go.Proofs.YthonbfojpbfmgaaGreatDoor

/- A chunk in memory, and its lane. -/
set_option linter.unusedVariables false
set_option linter.unusedSimpArgs false
set_option linter.unnecessarySimpa false
set_option maxRecDepth 20000
namespace Go.Proofs.YthonbfojpbfmgaaGreatDoor
open Go.RowKit

/-- the cells of a chunk: rows, codec, width, nulls, count, list, ends, base, lanes, kind, nulls before -/
def ck_I (rows codec width : Int) (nulls : Value) (count : Int) (list ends : Value) (base : Int) (lanes kind bef : Value) : List Value :=
  [i64 rows, i64 codec, i64 width, nulls, i64 count, list, ends, i64 base, lanes, kind, bef]
/-- a chunk at block g, by its fields -/
structure CkAt_I (w : World) (g : Nat) (rows codec width : Int) (nulls : Value) (count : Int) (list ends : Value) (base : Int) (lanes kind bef : Value) : Prop where
  row : Row w g 111 (ck_I rows codec width nulls count list ends base lanes kind bef)

set_option maxHeartbeats 1000000 in
theorem lane_I (w : World) (g : Nat) (rows codec : Int) (wd : Nat) (nulls : Value) (count : Int) (list ends : Value) (base : Int) (lanes kind bef : Value) (ws : List Nat) (j : Nat)
    (h : Row w g 111 (ck_I rows codec wd nulls count list ends base lanes kind bef)) (hx : Rd w lanes ws.length 1 (u64s ws)) (hv : ∀ x ∈ ws, x < 18446744073709551616)
    (hw : wd ≤ 64) (hj : j ≤ 65536) (hin : 0 < wd → j / (64 / wd) < ws.length) :
    Calls Tryz.prog 169 #[.pointer (some ⟨g, 0, none⟩), .int .i64 j] w fun e w' => e = .returned (.int .u64 (L.laneOf wd ws j : Nat)) ∧ ∃ n, w' = w.drewN n := by
  have c2 : w.cell? ⟨g, 0 + 2, none⟩ = some (.int .i64 wd) := by rw [h.cell]; rfl
  by_cases h0 : wd = 0
  · subst h0
    go_enter Tryz.func169, Tryz.ntmps169
    go_wp2
    go_ret
    exact ⟨by simp [L.laneOf], 0, rfl⟩
  · obtain ⟨A, ca, rfl, hlc, hcm, hA⟩ := hx.form
    have hlt := hin (by omega)
    obtain ⟨b, o, rfl, hs⟩ := hA (Nat.lt_of_le_of_lt (Nat.zero_le _) hlt)
    have c8 : w.cell? ⟨g, 0 + 8, none⟩ = some (.slice (some ⟨b, o, none⟩) ws.length ca) := by rw [h.cell]; rfl
    have c1 := hs.word _ hlt
    have hvj : ws.getD (j / (64 / wd)) 0 < 18446744073709551616 := hv _ (by simp [List.getD, List.getElem?_eq_getElem hlt])
    have hp := L.per_pos (by omega) hw
    have hp2 : 64 / wd ≤ 64 := Nat.div_le_self 64 wd
    obtain ⟨p, hP⟩ : ∃ p, 64 / wd = p := ⟨_, rfl⟩
    have hPi : (64 : Int) / (wd : Int) = (p : Int) := by rw [← hP]; simp
    rw [hP] at c1 hvj hp hp2 hlt
    have hmul : j % p * wd ≤ 64 := by
      have h1 := L.per_mul wd
      rw [hP] at h1
      exact Nat.le_trans (Nat.mul_le_mul_right wd (Nat.le_of_lt (Nat.mod_lt _ hp))) h1
    obtain ⟨q, hq⟩ : ∃ q, j % p * wd = q := ⟨_, rfl⟩
    have hq' : ((j : Int) % (p : Int)) * (wd : Int) = (q : Int) := by rw [← hq]; simp
    rw [hq] at hmul
    obtain ⟨d, hd⟩ : ∃ d, j / p = d := ⟨_, rfl⟩
    have hd' : (j : Int) / (p : Int) = (d : Int) := by rw [← hd]; simp
    have hdj : d ≤ 65536 := by rw [← hd]; exact Nat.le_trans (Nat.div_le_self _ _) hj
    rw [hd] at c1 hvj hlt
    have HL : Hid (L.laneOf wd ws j = ws.getD d 0 / 2 ^ q % 2 ^ wd) := hid (by unfold L.laneOf; rw [if_neg h0, hP, hd, hq])
    have hne : ¬ (wd : Int) = 0 := by omega
    have hpe : ¬ (p : Int) = 0 := by omega
    clear hA hs hx hv hin hP hq hd h
    generalize ws.getD d 0 = x at *
    have HAND := hid (and_lane x q wd hvj hw)
    generalize hz : 2 ^ wd - 1 = z at *
    have HZ := hid hz
    clear hz
    have hw1 : (wd : Int) ≤ 64 := by omega
    have HSH : Hid (IntKind.u64.wrap (IntKind.u64.wrap (2 ^ wd) - 1) = (z : Int)) := hid (by rw [← HZ.out]; exact low_bits wd hw)
    go_enter Tryz.func169, Tryz.ntmps169
    go_wp2
    rw [hPi, HSH.out]
    go_quiet (fail)
    go_wp2
    go_ret
    exact ⟨ret_u64 (by rw [HAND.out, HL.out]), _, rfl⟩
end Go.Proofs.YthonbfojpbfmgaaGreatDoor

/- slices.BinarySearch over ints. -/
set_option linter.unusedVariables false
set_option linter.unusedSimpArgs false
set_option linter.unnecessarySimpa false
set_option maxRecDepth 20000
namespace Go.Proofs.YthonbfojpbfmgaaGreatDoor
open Go.RowKit

theorem isNaNi_any (x : Int) (w : World) : Calls Tryz.prog 248 #[.int .i64 x] w fun e w' => e = .returned (.bool false) ∧ w' = w := by
  have e1 : (x != x) = false := by simp
  go_enter Tryz.func248, Tryz.ntmps248
  go_wp2
  go_ret
  exact ⟨rfl, rfl⟩
theorem isNaNs_any (x : Int) (w : World) : Calls Tryz.prog 243 #[.int .i64 x] w fun e w' => e = .returned (.bool false) ∧ w' = w := by
  have e1 : (x != x) = false := by simp
  go_enter Tryz.func243, Tryz.ntmps243
  go_wp2
  go_ret
  exact ⟨rfl, rfl⟩
theorem Less_any (x y : Int) (w : World) : Calls Tryz.prog 242 #[.int .i64 x, .int .i64 y] w fun e w' => e = .returned (.bool (decide (x < y))) ∧ w' = w := by
  go_enter Tryz.func242, Tryz.ntmps242
  go_wp2_with (go_at_call 248; refine (isNaNi_any _ _).mono ?_; rintro e w' ⟨rfl, rfl⟩)
  all_goals go_ret
  all_goals exact ⟨rfl, rfl⟩

/-- the first place whose entry is t or more -/
def firstGe (es : List Int) (t : Int) : Nat := es.findIdx fun e => decide (t ≤ e)
theorem firstGe_eq (es : List Int) (t : Int) (i : Nat) (hi : i ≤ es.length) (h1 : ∀ a, a < i → es.getD a 0 < t) (h2 : i < es.length → t ≤ es.getD i 0) : firstGe es t = i := by
  unfold firstGe
  by_cases hlt : i < es.length
  · rw [List.findIdx_eq hlt]
    refine ⟨?_, fun j hj => ?_⟩
    · have := h2 hlt
      simpa [List.getD, List.getElem?_eq_getElem hlt] using this
    · have := h1 j hj
      have hjl : j < es.length := by omega
      simp only [List.getD, List.getElem?_eq_getElem hjl, Option.getD_some] at this
      simpa using this
  · have : i = es.length := by omega
    rw [this, List.findIdx_eq_length]
    intro x hx
    obtain ⟨j, hj, rfl⟩ := List.getElem_of_mem hx
    have := h1 j (by omega)
    simp only [List.getD, List.getElem?_eq_getElem hj, Option.getD_some] at this
    simpa using this
theorem firstGe_le (es : List Int) (t : Int) : firstGe es t ≤ es.length := List.findIdx_le_length

set_option maxHeartbeats 2000000 in
theorem BinarySearch_any (v : Value) (es : List Int) (t : Int) (w : World) (hx : Rd w v es.length 1 (i64s es)) (hl : es.length ≤ 16777216) (hup : ∀ a b, a < b → b < es.length → es.getD a 0 < es.getD b 0) :
    Calls Tryz.prog 219 #[v, .int .i64 t] w fun e w' => (∃ b : Value, e = .returned (.tuple #[.int .i64 (firstGe es t : Nat), b])) ∧ ∃ n, w' = w.drewN n := by
  obtain ⟨A, ca, rfl, hlc, hcm, hA⟩ := hx.form
  have HX := hid hx
  have HUP := hid hup
  clear hx hup
  go_enter Tryz.func219, Tryz.ntmps219
  go_wp2
  go_loop [7, 8] (fun u x => ∃ i j : Nat, i ≤ j ∧ j ≤ es.length ∧ u = .int .i64 i ∧ x = .int .i64 j ∧ (∀ a, a < i → es.getD a 0 < t) ∧ (∀ a, j ≤ a → a < es.length → t ≤ es.getD a 0)) (fun u x => (intOf x).toNat - (intOf u).toNat)
  case atStart => exact ⟨0, es.length, by omega, by omega, rfl, rfl, fun a h => by omega, fun a h1 h2 => by omega⟩
  case round =>
    obtain ⟨i, j, hij, hj, rfl, rfl, h1, h2⟩ := hrel
    have H1 := hid h1
    have H2 := hid h2
    clear h1 h2
    by_cases hlt : i < j
    · obtain ⟨b, o, rfl, hs⟩ := hA (by omega)
      obtain ⟨m, hm⟩ : ∃ m, (i + j) / 2 = m := ⟨_, rfl⟩
      have hm' : ((i : Int) + (j : Int)) / 2 = (m : Int) := by omega
      have hml : m < es.length := by omega
      have c1 := hs.int m hml
      have him : i ≤ m := by omega
      have hmj : m < j := by omega
      have HLT : Hid (es.getD m 0 < t → ∀ a, a < m + 1 → es.getD a 0 < t) := by
        intro h a ha
        by_cases ham : a = m
        · subst ham; exact h
        · have := HUP.out a m (by omega) hml; omega
      have HGE : Hid (t ≤ es.getD m 0 → ∀ a, m ≤ a → a < es.length → t ≤ es.getD a 0) := by
        intro h a ha1 ha2
        by_cases ham : a = m
        · subst ham; exact h
        · have := HUP.out m a (by omega) ha2; omega
      clear hs hA hm
      generalize es.getD m 0 = x at *
      go_wp2_with (go_at_call 242; refine (Less_any _ _ _).mono ?_; rintro e w' ⟨rfl, hw⟩; subst hw)
      · go_round
        case rel => exact ⟨m + 1, j, by omega, by omega, by go_num, rfl, HLT.out (by assumption), H2.out⟩
        case measure => simp [intOf]; omega
      · go_round
        case rel => exact ⟨i, m, by omega, by omega, rfl, rfl, H1.out, HGE.out (by omega)⟩
        case measure => simp [intOf]; omega
    · have hf : firstGe es t = i := firstGe_eq es t i (by omega) H1.out (fun h => H2.out i (by omega) h)
      have HF := hid hf
      clear hf
      by_cases hie : i < es.length
      · obtain ⟨b, o, rfl, hs⟩ := hA (by omega)
        have c1 := hs.int i hie
        clear hs hA
        generalize es.getD i 0 = x at *
        go_wp2_with (go_at_call 243; refine (isNaNs_any _ _).mono ?_; rintro e w' ⟨rfl, hw⟩; subst hw)
        all_goals go_ret2
        all_goals exact ⟨⟨_, by rw [HF.out]; rfl⟩, 0, rfl⟩
      · go_wp2
        all_goals go_ret2
        all_goals exact ⟨⟨_, by rw [HF.out]; rfl⟩, 0, rfl⟩
end Go.Proofs.YthonbfojpbfmgaaGreatDoor

/- Package chunk: lists of values off the reader. -/
set_option linter.unusedVariables false
set_option linter.unusedSimpArgs false
set_option linter.unnecessarySimpa false
set_option maxRecDepth 20000
namespace Go.Proofs.YthonbfojpbfmgaaGreatDoor
open Go.RowKit

/-- the last of the ends of texts, if they are in order -/
def textEnd (last : Int) : List Int → Option Int
  | [] => some last
  | e :: r => if e < last ∨ e - last > 1024 then none else textEnd e r
theorem textEnd_snoc (es : List Int) : ∀ (l e : Int), textEnd l (es ++ [e]) = (textEnd l es).bind fun x => if e < x ∨ e - x > 1024 then none else some e := by
  induction es with
  | nil => intro l e; simp [textEnd]
  | cons a r ih => intro l e; simp only [List.cons_append, textEnd]; split
                   · rfl
                   · exact ih a e
theorem textEnd_none (es fs : List Int) : ∀ l, textEnd l es = none → textEnd l (es ++ fs) = none := by
  induction es with
  | nil => intro l h; simp [textEnd] at h
  | cons a r ih => intro l h; simp only [List.cons_append, textEnd] at h ⊢; split
                   · rfl
                   · rename_i hc; rw [if_neg hc] at h; exact ih a h
def tsz (es : List Int) : Int := (textEnd 0 es).getD 0

set_option maxHeartbeats 1000000 in
theorem textSize_any (v : Value) (es : List Int) (w : World) (hx : Rd w v es.length 1 (i64s es)) (hl : es.length ≤ 16777216) (hs : ∀ e ∈ es, 0 ≤ e ∧ e < 4294967296) :
    Calls Tryz.prog 269 #[v] w fun e w' => e = .returned (.tuple #[.int .i64 (tsz es), .bool (textEnd 0 es).isSome]) ∧ w' = w := by
  obtain ⟨A, ca, rfl, hlc, hcm, hA⟩ := hx.form
  clear hx
  go_enter Tryz.func269, Tryz.ntmps269
  go_wp2
  go_loop [4, 9] (fun u i => ∃ (j : Nat) (l : Int), j ≤ es.length ∧ i = .int .i64 j ∧ u = .int .i64 l ∧ textEnd 0 (es.take j) = some l ∧ 0 ≤ l ∧ l < 4294967296) (fun _ i => es.length - (intOf i).toNat)
  case atStart => exact ⟨0, 0, by omega, rfl, rfl, rfl, by omega, by omega⟩
  case round =>
    obtain ⟨j, l, hj, rfl, rfl, hu, hl0, hl1⟩ := hrel
    have HU := hid hu
    clear hu
    by_cases hlt : j < es.length
    · obtain ⟨b, o, rfl, hseg⟩ := hA (by omega)
      have c1 := hseg.int j hlt
      have hb := hs (es.getD j 0) (by simp [List.getD, List.getElem?_eq_getElem hlt])
      have hsn : textEnd 0 (es.take (j + 1)) = if es.getD j 0 < l ∨ es.getD j 0 - l > 1024 then none else some (es.getD j 0) := by
        rw [List.take_succ_eq_append_getElem hlt, textEnd_snoc, HU.out]
        simp [List.getD, List.getElem?_eq_getElem hlt]
      have HB : Hid (textEnd 0 (es.take (j + 1)) = none → textEnd 0 es = none) := by
        intro h
        have := textEnd_none (es.take (j + 1)) (es.drop (j + 1)) 0 h
        rwa [List.take_append_drop] at this
      have HSN := hid hsn
      clear hsn hseg hA hs
      generalize es.getD j 0 = p at *
      go_wp2
      all_goals first
        | (go_ret2
           have h := HB.out (by rw [HSN.out, if_pos (by omega)])
           exact ⟨by rw [tsz, h]; rfl, rfl⟩)
        | (go_round
           case rel => exact ⟨j + 1, p, by omega, by go_num, rfl, by rw [HSN.out, if_neg (by omega)], by omega, by omega⟩
           case measure => simp [intOf]; omega)
    · go_wp2
      go_ret2
      have hu := HU.out
      rw [show j = es.length from by omega, List.take_length] at hu
      exact ⟨by rw [tsz, hu]; rfl, rfl⟩

theorem owns_chg {w w' : World} {B a b : Nat} {e : TypeId} {v : Value} {n : Nat} {cs : List Value} (h : w.ownsRow B e 1 v n cs) (hc : Chg a b w w') (ha : a < B) (hb : b < B) : w'.ownsRow B e 1 v n cs := by
  refine ⟨h.1, ?_⟩
  rcases h.2 with hn | ⟨g, cap, cur, rfl, hb', hg, r⟩
  · exact .inl hn
  · exact .inr ⟨g, cap, cur, rfl, hb', by rw [hc.block g (Array.getElem?_eq_some_iff.1 hg).1 (by omega) (by omega)]; exact hg, r⟩
/-- a word as an int64 -/
def sgn64 (x : Nat) : Int := wrap64 (x : Int)
theorem Tryz.info64 : (Tryz.prog.info? 2).map (fun i => (i.zero, i.size, i.bytes)) = some (some (.int .i64 0), 1, 8) := by kernel_rfl

/-- what reading a list of so many integers gives: values, is it a list, bytes left, is the reader short -/
def rdI (c : Nat) (xs : List Nat) (s : Bool) : List Int × Bool × List Nat × Bool := ((numL 8 (tk (8 * c) xs)).map sgn64, !tkS (8 * c) xs s, tkL (8 * c) xs, tkS (8 * c) xs s)

set_option maxHeartbeats 2000000 in
theorem readListI_any (w0 w : World) (g : Nat) (xs : List Nat) (s : Bool) (c : Nat) (h : RdrAt w0 w g xs s) (hgs : g < w.heap.size) (hv : ∀ x ∈ xs, x < 256) (hl : xs.length ≤ 16777216) (hc : c ≤ 4294967296) :
    Calls Tryz.prog 274 #[.agg #[], .pointer (some ⟨g, 0, none⟩), .int .i64 c] w fun e w' => ∃ v, e = .returned (.tuple #[v, .bool (rdI c xs s).2.1]) ∧
      w'.ownsRow w.heap.size 2 1 v (rdI c xs s).1.length (i64s (rdI c xs s).1) ∧ RdrAt w0 w' g (rdI c xs s).2.2.1 (rdI c xs s).2.2.2 ∧ Chg g g w w' := by
  obtain ⟨ys, hys⟩ : ∃ ys, numL 8 (tk (8 * c) xs) = ys := ⟨_, rfl⟩
  have hyv : ∀ x ∈ ys, x < 18446744073709551616 := by rw [← hys]; exact numL_lt (tk_lt hv) (by omega)
  have hyl : ys.length ≤ 16777216 := by
    rw [← hys, numL_length]; unfold tk; split
    · rw [List.length_take]; omega
    · simp
  have HY := hid hys
  obtain ⟨s1, hs1⟩ : ∃ s1, tkS (8 * c) xs s = s1 := ⟨_, rfl⟩
  have HS1 := hid hs1
  obtain ⟨B, hB⟩ : ∃ B, w.heap.size = B := ⟨_, rfl⟩
  have HB := hid hB
  have e0 : rdI c xs s = (ys.map sgn64, !s1, tkL (8 * c) xs, s1) := by rw [← hys, ← hs1]; rfl
  rw [e0, hB]
  have HC := hid (fun (w2 : World) (h2 : RdrAt w0 w2 g xs s) (hg2 : g < w2.heap.size) => U64s_any w0 w2 g xs s c h2 hg2 hv hl hc)
  have H := hid h
  clear hys hs1 hB e0 h hv
  go_enter Tryz.func274, Tryz.ntmps274
  go_wp2_with fail
  have hba : Below w.heap.size w (w.alloc (.cells #[] 68)) := (brefl w).alloc (Nat.le_refl _) _
  refine (HC.out _ (H.out.mono hba) (Nat.lt_of_lt_of_le hgs hba.size)).mono ?_
  rintro e w1 ⟨p, hp, rfl, hrow, hat, hch⟩
  rw [HY.out] at hrow ⊢
  rw [HS1.out] at hat
  have HAT := hid hat
  have HCH : Hid (Chg g g w w1) := hid ((Chg.of_below hba).trans hch)
  have HROW := hid hrow
  have hpw : w.heap.size ≤ p := Nat.le_trans hba.size hp
  have hpg : p ≠ g := by omega
  clear hrow hat hch hba hp HC H
  go_wp2
  refine upon_make 2 (.int .i64 0) 8 Tryz.underlying51 Tryz.info64 rfl ys.length (by omega) (by omega) (by omega) (by unfold maxLen; omega) ?_
  intro w2 hrow2 hb2 hsz2
  have hg1 : g < w1.heap.size := Nat.lt_of_lt_of_le hgs HCH.out.size
  have hp1 : p < w1.heap.size := HROW.out.lt
  have hwB : w.heap.size ≤ w1.heap.size := HCH.out.size
  obtain ⟨q, hq⟩ : ∃ q, w1.heap.size = q := ⟨_, rfl⟩
  rw [hq] at hrow2 hb2 hsz2 hg1 hp1 hwB ⊢
  have HROW2 := hid hrow2
  have HB2 := hid hb2
  clear hrow2 hb2 hq
  go_wp2
  go_loopw [20] (fun i wr => ∃ j : Nat, j ≤ ys.length ∧ i = .int .i64 j ∧ Row wr q 2 (i64s ((ys.take j).map sgn64) ++ List.replicate (ys.length - j) (.int .i64 0)) ∧ Below q w1 wr ∧ Hid (q < wr.heap.size)) (fun i _ => ys.length - (intOf i).toNat)
  case atStart => exact ⟨0, by omega, rfl, by simpa [i64s] using HROW2.out, HB2.out, hid (by omega)⟩
  case round =>
    obtain ⟨j, hj, rfl, hr, hb, hz⟩ := hrel
    by_cases hlt : j < ys.length
    · have hcell : wr.cell? ⟨q, j, none⟩ = some (.int .i64 0) := by
        rw [hr.cell]; exact get_fill _ _ _ _ (by simp [i64s, List.length_take]; omega) (by omega)
      have hfr := hr.frozen j
      have hrp : Row wr p 40 (u64s ys) := HROW.out.below hb hp1
      have c1 : wr.cell? ⟨p, j, none⟩ = some (.int .u64 ((ys.getD j 0 : Nat) : Int)) := by rw [hrp.cell]; exact u64s_get ys j hlt
      have hyj := hyv (ys.getD j 0) (by simp [List.getD, List.getElem?_eq_getElem hlt])
      have HSN : Hid ((ys.take (j + 1)).map sgn64 = (ys.take j).map sgn64 ++ [sgn64 (ys.getD j 0)]) := by
        refine hid ?_
        rw [List.take_succ_eq_append_getElem hlt, List.map_append]
        simp [List.getD, List.getElem?_eq_getElem hlt]
      have HR := hid hr
      clear hr hrp
      generalize ys.getD j 0 = x at *
      go_wp2
      go_roundw
      case rel =>
        refine ⟨j + 1, by omega, by go_num, ?_, below_set hb _ _ _ (Nat.le_refl _), ?_⟩
        · have hss := HR.out.set j (.int .i64 (sgn64 x))
          rw [set_fill _ _ _ _ _ (by simp [i64s, List.length_take]; omega) (by omega)] at hss
          rw [HSN.out, i64s_append, ← Nat.sub_sub ys.length j 1]
          exact hss
        · refine hid ?_; have := hz.out; simpa [World.setCell] using this
      case measure => simp [intOf]; omega
    · obtain rfl : j = ys.length := by omega
      have hat2 : RdrAt w0 wr g (tkL (8 * c) xs) s1 := by
        obtain ⟨h1, h2, v, hr1, hr2⟩ := HAT.out
        exact ⟨h1, h2.trans (hb.mono (by omega)), v, hr1.below hb hg1, hr2⟩
      have HAT2 := hid hat2
      have HRR := hid hr
      clear hat2 hr
      go_wp2_with (go_at_call 83; refine (Short_any w0 _ g _ s1 HAT2.out).mono ?_; rintro e w3 ⟨rfl, hw⟩; subst hw)
      go_ret2
      have h1 := HRR.out
      rw [Nat.sub_self, List.replicate_zero, List.append_nil, List.take_length] at h1
      refine ⟨_, rfl, ?_, HAT2.out, HCH.out.then_below hb hwB⟩
      have h2 := h1.owns (B := B) (n := ys.length) (by have := HB.out; omega) (by simp [i64s]) (by unfold maxLen; omega)
      simpa using h2
end Go.Proofs.YthonbfojpbfmgaaGreatDoor

/- Strings out of bytes. -/
set_option linter.unusedVariables false
set_option linter.unusedSimpArgs false
set_option linter.unnecessarySimpa false
set_option maxRecDepth 20000
namespace Go.Proofs.YthonbfojpbfmgaaGreatDoor
open Go.RowKit

def ofBytes (bs : List Nat) : ByteArray := ⟨(bs.map UInt8.ofNat).toArray⟩
theorem ofBytes_size (bs : List Nat) : (ofBytes bs).size = bs.length := by simp [ofBytes, ByteArray.size]
theorem ofBytes_fold (bs : List Nat) : ∀ s : ByteArray, (bs.map (fun n : Nat => (n : Int))).foldl (fun r n => r.push (UInt8.ofNat n.toNat)) s = ⟨s.data ++ (bs.map UInt8.ofNat).toArray⟩ := by
  induction bs with
  | nil => intro s; simp
  | cons b r ih =>
    intro s
    simp only [List.map_cons, List.foldl_cons, Int.toNat_natCast]
    rw [ih]
    congr 1
    simp [ByteArray.push]
theorem ofBytes_extract (bs : List Nat) (i j : Nat) (hj : j ≤ bs.length) : (ofBytes bs).extract i j = ofBytes ((bs.drop i).take (j - i)) := by
  apply ByteArray.ext
  rw [ByteArray.data_extract]
  unfold ofBytes
  simp [List.extract_eq_take_drop, List.map_take, List.map_drop]
theorem run_str {w : World} {v : Value} {xs : List Nat} (h : Rd w v xs.length 1 (u8s xs)) : (convert 22 9 v).run Tryz.prog w = .ok (.string (ofBytes xs)) w := by
  obtain ⟨A, ca, rfl, _, _, hA⟩ := h.form
  rw [run_convert_bytes_string w _ _ 5 A xs.length ca Tryz.underlying22 (by kernel_rfl) (by kernel_rfl)]
  cases A with
  | none =>
    have : xs = [] := by
      rcases Nat.eq_zero_or_pos xs.length with h0 | h0
      · exact List.eq_nil_of_length_eq_zero h0
      · obtain ⟨b, o, e, _⟩ := hA h0; cases e
    subst this
    simp [Conv.bytesToString, Sem.run_pure, ofBytes]
    rfl
  | some a =>
    rw [run_bytesToString w a xs.length ca (xs.map fun n : Nat => (n : Int))]
    · rw [ofBytes_fold]; simp [ofBytes]
    · have hl := run_loadCells_list (P := Tryz.prog) w a (u8s xs) (fun j v hv => by
        have hj : j < xs.length := by
          have := (List.getElem?_eq_some_iff.1 hv).1
          rwa [u8s_length] at this
        obtain ⟨b, o, e, hs⟩ := hA (by omega)
        cases e
        rw [addr_add]
        exact hs j v hv)
      rw [u8s_length] at hl
      rw [hl]
      simp [u8s, u8]
end Go.Proofs.YthonbfojpbfmgaaGreatDoor

/- Package chunk: lists of strings off the reader. -/
set_option linter.unusedVariables false
set_option linter.unusedSimpArgs false
set_option linter.unnecessarySimpa false
set_option maxRecDepth 200000
namespace Go.Proofs.YthonbfojpbfmgaaGreatDoor
open Go.RowKit

theorem textEnd_append (es fs : List Int) : ∀ a, textEnd a (es ++ fs) = (textEnd a es).bind fun l => textEnd l fs := by
  induction es with
  | nil => intro a; simp [textEnd]
  | cons e r ih => intro a; simp only [List.cons_append, textEnd]; split
                   · rfl
                   · exact ih e
theorem textEnd_le (es : List Int) : ∀ a l, textEnd a es = some l → a ≤ l := by
  induction es with
  | nil => intro a l h; simp [textEnd] at h; omega
  | cons e r ih => intro a l h; simp only [textEnd] at h; split at h
                   · cases h
                   · have := ih e l h; omega
theorem textEnd_mem (es : List Int) : ∀ a l, textEnd a es = some l → l = a ∨ l ∈ es := by
  induction es with
  | nil => intro a l h; simp [textEnd] at h; exact .inl h.symm
  | cons e r ih => intro a l h; simp only [textEnd] at h; split at h
                   · cases h
                   · rcases ih e l h with h1 | h1
                     · subst h1; exact .inr (by simp)
                     · exact .inr (by simp [h1])
/-- the strings that the ends cut out of the text -/
def cutS (a : Int) (t : List Nat) : List Int → List ByteArray
  | [] => []
  | e :: r => ofBytes ((t.drop a.toNat).take (e - a).toNat) :: cutS e t r
theorem cutS_length (t : List Nat) (es : List Int) : ∀ a, (cutS a t es).length = es.length := by
  induction es with
  | nil => intro a; rfl
  | cons e r ih => intro a; simp [cutS, ih]
theorem cutS_snoc (t : List Nat) (es : List Int) : ∀ (a e l : Int), textEnd a es = some l → cutS a t (es ++ [e]) = cutS a t es ++ [ofBytes ((t.drop l.toNat).take (e - l).toNat)] := by
  induction es with
  | nil => intro a e l h; simp [textEnd] at h; subst h; simp [cutS]
  | cons x r ih => intro a e l h; simp only [textEnd] at h; split at h
                   · cases h
                   · simp only [List.cons_append, cutS]; rw [ih x e l h]
/-- what reading a list of so many strings gives -/
def rdS (c : Nat) (xs : List Nat) (s : Bool) : List ByteArray × Bool × List Nat × Bool :=
  let ends := nI (numL 4 (tk (4 * c) xs))
  match textEnd 0 ends with
  | none => ([], false, tkL (4 * c) xs, tkS (4 * c) xs s)
  | some sz =>
    if tkS sz.toNat (tkL (4 * c) xs) (tkS (4 * c) xs s) = true then ([], false, tkL sz.toNat (tkL (4 * c) xs), true)
    else (cutS 0 (tk sz.toNat (tkL (4 * c) xs)) ends, true, tkL sz.toNat (tkL (4 * c) xs), false)
theorem tkL_le (n : Nat) (xs : List Nat) : (tkL n xs).length ≤ xs.length := by unfold tkL; split <;> simp
theorem tkL_lt {n : Nat} {xs : List Nat} {B : Nat} (h : ∀ x ∈ xs, x < B) : ∀ x ∈ tkL n xs, x < B := by
  intro x hx; unfold tkL at hx; split at hx
  · exact h x (List.mem_of_mem_drop hx)
  · cases hx
theorem Tryz.infoStr : (Tryz.prog.info? 9).map (fun i => (i.zero, i.size, i.bytes)) = some (some (.string ByteArray.empty), 1, 16) := by kernel_rfl

set_option maxHeartbeats 4000000 in
theorem readListS_any (w0 w : World) (g : Nat) (xs : List Nat) (s : Bool) (c : Nat) (h : RdrAt w0 w g xs s) (hgs : g < w.heap.size) (hv : ∀ x ∈ xs, x < 256) (hl : xs.length ≤ 16777216) (hc : c ≤ 4294967296) :
    Calls Tryz.prog 268 #[.agg #[], .pointer (some ⟨g, 0, none⟩), .int .i64 c] w fun e w' => ∃ v, e = .returned (.tuple #[v, .bool (rdS c xs s).2.1]) ∧
      w'.ownsRow w.heap.size 9 1 v (rdS c xs s).1.length (strs (rdS c xs s).1) ∧ RdrAt w0 w' g (rdS c xs s).2.2.1 (rdS c xs s).2.2.2 ∧ Chg g g w w' := by
  obtain ⟨ys, hys⟩ : ∃ ys, numL 4 (tk (4 * c) xs) = ys := ⟨_, rfl⟩
  have hyv : ∀ x ∈ ys, x < 4294967296 := by rw [← hys]; exact numL4_lt (tk_lt hv)
  have hyl : ys.length ≤ 16777216 := by
    rw [← hys, numL_length]; unfold tk; split
    · rw [List.length_take]; omega
    · simp
  obtain ⟨es, hes⟩ : ∃ es, nI ys = es := ⟨_, rfl⟩
  have hel : ys.length = es.length := by rw [← hes, nI_length]
  have hev : ∀ e ∈ es, 0 ≤ e ∧ e < 4294967296 := by
    rw [← hes]; intro e he
    obtain ⟨y, hy, rfl⟩ := List.mem_map.1 he
    have := hyv y hy
    omega
  obtain ⟨xl, hxl⟩ : ∃ xl, tkL (4 * c) xs = xl := ⟨_, rfl⟩
  have hxll : xl.length ≤ 16777216 := by rw [← hxl]; exact Nat.le_trans (tkL_le _ _) hl
  have hxlv : ∀ x ∈ xl, x < 256 := by rw [← hxl]; exact tkL_lt hv
  obtain ⟨s1, hs1⟩ : ∃ s1, tkS (4 * c) xs s = s1 := ⟨_, rfl⟩
  have e0 : rdS c xs s = match textEnd 0 es with
      | none => ([], false, xl, s1)
      | some sz => if tkS sz.toNat xl s1 = true then ([], false, tkL sz.toNat xl, true) else (cutS 0 (tk sz.toNat xl) es, true, tkL sz.toNat xl, false) := by
    rw [← hes, ← hys, ← hxl, ← hs1]; rfl
  rw [e0]
  have HC : Hid (∀ (w2 : World), RdrAt w0 w2 g xs s → g < w2.heap.size → Calls Tryz.prog 187 #[.pointer (some ⟨g, 0, none⟩), .int .i64 c] w2 fun e w' => ∃ p, w2.heap.size ≤ p ∧
      e = .returned (.slice (some ⟨p, 0, none⟩) es.length es.length) ∧ Row w' p 3 (i64s es) ∧ RdrAt w0 w' g xl s1 ∧ Chg g g w2 w') := by
    intro w2 h2 hg2
    have := U32s_any w0 w2 g xs s c h2 hg2 hv hl hc
    rw [hys, hes, hxl, hs1, hel] at this
    exact this
  have hesl : es.length ≤ 16777216 := by omega
  have H := hid h
  clear hys hes hxl hs1 e0 h hv hyv hel hyl
  obtain ⟨B, hB⟩ : ∃ B, w.heap.size = B := ⟨_, rfl⟩
  have HB := hid hB
  rw [hB]
  clear hB
  have hba : Below w.heap.size w (w.alloc (.cells #[] 66)) := (brefl w).alloc (Nat.le_refl _) _
  have HC1 := hid (HC.out _ (H.out.mono hba) (Nat.lt_of_lt_of_le hgs hba.size))
  have HBA := hid hba
  clear hba HC H
  cases hte : textEnd 0 es with
  | none =>
    have ht1 : tsz es = 0 := by rw [tsz, hte]; rfl
    go_enter Tryz.func268, Tryz.ntmps268
    go_wp2_with fail
    refine HC1.out.mono ?_
    rintro e w1 ⟨p, hp, rfl, hrow, hat, hch⟩
    have HAT := hid hat
    have HCH : Hid (Chg g g w w1) := hid ((Chg.of_below HBA.out).trans hch)
    have HRD := hid (hrow.rd' (n := es.length) (by simp [i64s]) (by unfold maxLen; omega))
    clear hrow hat hch
    go_wp2_with (go_at_call 269; refine (textSize_any _ es _ HRD.out hesl hev).mono ?_; rintro e w2 ⟨rfl, hw⟩; subst hw; rw [hte]; dsimp only [Option.isSome])
    go_ret2
    exact ⟨_, rfl, World.ownsRow_nil _ _ _ _, HAT.out, HCH.out⟩
  | some sz =>
    have hsz0 := textEnd_le es 0 sz hte
    have hsz1 : sz < 4294967296 := by
      rcases textEnd_mem es 0 sz hte with h1 | h1
      · omega
      · exact (hev sz h1).2
    obtain ⟨n, rfl⟩ := Int.eq_ofNat_of_zero_le hsz0
    have ht1 : tsz es = (n : Int) := by rw [tsz, hte]; rfl
    simp only [Int.toNat_natCast]
    obtain ⟨s2, hs2⟩ : ∃ s2, tkS n xl s1 = s2 := ⟨_, rfl⟩
    obtain ⟨t, ht⟩ : ∃ t, tk n xl = t := ⟨_, rfl⟩
    rw [hs2, ht]
    have HS2 := hid hs2
    have HT := hid ht
    have HTE := hid hte
    clear hs2 ht
    go_enter Tryz.func268, Tryz.ntmps268
    go_wp2_with fail
    refine HC1.out.mono ?_
    rintro e w1 ⟨p, hp, rfl, hrow, hat, hch⟩
    have HAT := hid hat
    have HCH : Hid (Chg g g w w1) := hid ((Chg.of_below HBA.out).trans hch)
    have HROW := hid hrow
    have HRD := hid (hrow.rd' (n := es.length) (by simp [i64s]) (by unfold maxLen; omega))
    have hpw : w.heap.size ≤ p := Nat.le_trans HBA.out.size hp
    have hpg : p ≠ g := by omega
    clear hrow hat hch hp HC1 HBA
    go_wp2_with (go_at_call 269; refine (textSize_any _ es _ HRD.out hesl hev).mono ?_; rintro e w2 ⟨rfl, hw⟩; subst hw; rw [HTE.out, ht1]; dsimp only [Option.isSome])
    refine (Take_any w0 _ g xl s1 n HAT.out hxll (by omega)).mono ?_
    rintro e w2 ⟨v, rfl, hrd, hat, hch⟩
    rw [HT.out] at hrd
    rw [HS2.out] at hat
    have HAT2 := hid hat
    have HCH2 : Hid (Chg g g w w2) := hid (HCH.out.trans hch)
    have hcv := run_str (hrd.mono hat.2.1)
    have HROW2 := hid (hch.row HROW.out hpg hpg)
    clear HAT HCH HROW HRD hrd hat hch
    cases s2 with
    | true =>
      go_wp2_with (go_at_call 83; refine (Short_any w0 _ g _ true HAT2.out).mono ?_; rintro e w3 ⟨rfl, hw⟩; subst hw)
      go_ret2
      exact ⟨_, rfl, World.ownsRow_nil _ _ _ _, HAT2.out, HCH2.out⟩
    | false =>
      have htn : n ≤ xl.length ∧ t = xl.take n := by
        have h1 := HS2.out
        have h2 := HT.out
        unfold tkS at h1
        unfold tk at h2
        split at h1
        · rename_i hle
          rw [if_pos hle] at h2
          exact ⟨hle, h2.symm⟩
        · cases h1
      have htl : t.length = n := by rw [htn.2, List.length_take]; omega
      clear HT HS2 htn
      go_wp2_with (go_at_call 83; refine (Short_any w0 _ g _ false HAT2.out).mono ?_; rintro e w3 ⟨rfl, hw⟩; subst hw)
      refine upon_make 9 (.string ByteArray.empty) 16 Tryz.underlying58 Tryz.infoStr rfl es.length (by omega) (by omega) (by omega) (by unfold maxLen; omega) ?_
      intro w4 hrow4 hb4 hsz4
      have hg3 : g < w3.heap.size := Nat.lt_of_lt_of_le hgs HCH2.out.size
      have hp3 : p < w3.heap.size := HROW2.out.lt
      have hw3 : w.heap.size ≤ w3.heap.size := HCH2.out.size
      obtain ⟨q, hq⟩ : ∃ q, w3.heap.size = q := ⟨_, rfl⟩
      rw [hq] at hrow4 hb4 hsz4 hg3 hp3 hw3 ⊢
      have HROW4 := hid hrow4
      have HB4 := hid hb4
      obtain ⟨S, hS⟩ : ∃ S, ofBytes t = S := ⟨_, rfl⟩
      have hSs : S.size = n := by rw [← hS, ofBytes_size, htl]
      have HSS := hid hS
      rw [hS]
      clear hrow4 hb4 hq hcv hS
      go_wp2
      go_loopw [13, 37] (fun u i wr => ∃ (j : Nat) (l : Int), j ≤ es.length ∧ i = .int .i64 j ∧ u = .int .i64 l ∧ Hid (textEnd 0 (es.take j) = some l) ∧ Row wr q 9 (strs (cutS 0 t (es.take j)) ++ List.replicate (es.length - j) (.string ByteArray.empty)) ∧ Below q w3 wr ∧ Hid (q < wr.heap.size)) (fun _ i _ => es.length - (intOf i).toNat)
      case atStart => exact ⟨0, 0, by omega, rfl, rfl, hid rfl, by simpa [strs, cutS] using HROW4.out, HB4.out, hid (by omega)⟩
      case round =>
        obtain ⟨j, l, hj, rfl, rfl, hu, hr, hb, hz⟩ := hrel
        by_cases hlt : j < es.length
        · have hcl : (strs (cutS 0 t (es.take j))).length = j := by rw [strs_length, cutS_length, List.length_take]; omega
          have hcell : wr.cell? ⟨q, j, none⟩ = some (.string ByteArray.empty) := by
            rw [hr.cell]; exact get_fill _ _ _ _ hcl.symm (by omega)
          have hfr := hr.frozen j
          have hrp : Row wr p 3 (i64s es) := HROW2.out.below hb hp3
          have c1 : wr.cell? ⟨p, j, none⟩ = some (.int .i64 (es.getD j 0)) := by rw [hrp.cell]; exact i64s_get es j hlt
          have hej := hev (es.getD j 0) (by simp [List.getD, List.getElem?_eq_getElem hlt])
          have htk : es.take (j + 1) = es.take j ++ [es.getD j 0] := by
            rw [List.take_succ_eq_append_getElem hlt]; simp [List.getD, List.getElem?_eq_getElem hlt]
          have hal := textEnd_append (es.take (j + 1)) (es.drop (j + 1)) 0
          rw [List.take_append_drop, HTE.out, htk, textEnd_snoc, hu.out] at hal
          have hl0 := textEnd_le _ 0 l hu.out
          obtain ⟨hle, hen, hx1⟩ : l ≤ es.getD j 0 ∧ es.getD j 0 ≤ n ∧ ¬ (es.getD j 0 < l ∨ es.getD j 0 - l > 1024) := by
            simp only [Option.bind_some] at hal
            split at hal
            · cases hal
            · rename_i hx
              simp only [Option.bind_some] at hal
              have := textEnd_le _ _ _ hal.symm
              omega
          have HNX : Hid (textEnd 0 (es.take (j + 1)) = some (es.getD j 0)) := hid (by rw [htk, textEnd_snoc, hu.out]; simp only [Option.bind_some]; rw [if_neg hx1])
          have HCUT : Hid (cutS 0 t (es.take (j + 1)) = cutS 0 t (es.take j) ++ [S.extract l.toNat (es.getD j 0).toNat]) := by
            refine hid ?_
            rw [htk, cutS_snoc t _ 0 _ l hu.out, ← HSS.out, ofBytes_extract t _ _ (by omega)]
            congr 5
            omega
          have HR := hid hr
          have HCL := hid hcl
          clear hr hrp hal htk hx1 hcl
          generalize es.getD j 0 = x at *
          go_wp2
          go_roundw
          case rel =>
            refine ⟨j + 1, x, by omega, by go_num, rfl, HNX, ?_, below_set hb _ _ _ (Nat.le_refl _), ?_⟩
            · have hss := HR.out.set j (.string (S.extract l.toNat x.toNat))
              rw [set_fill _ _ _ _ _ HCL.out.symm (by omega)] at hss
              rw [HCUT.out, strs_append, ← Nat.sub_sub es.length j 1]
              exact hss
            · refine hid ?_; have := hz.out; simpa [World.setCell] using this
          case measure => simp [intOf]; omega
        · obtain rfl : j = es.length := by omega
          have hat2 : RdrAt w0 wr g (tkL n xl) false := by
            obtain ⟨h1, h2, v, hr1, hr2⟩ := HAT2.out
            exact ⟨h1, h2.trans (hb.mono (by omega)), v, hr1.below hb hg3, hr2⟩
          have HATF := hid hat2
          have HRR := hid hr
          clear hat2 hr hte ht1 hev hSs HSS htl hsz0 hsz1 HTE hu hj
          go_wp2
          go_ret2
          have h1 := HRR.out
          rw [Nat.sub_self, List.replicate_zero, List.append_nil, List.take_length] at h1
          refine ⟨_, rfl, ?_, HATF.out, HCH2.out.then_below hb hw3⟩
          have h2 := h1.owns (B := B) (n := es.length) (by have := HB.out; omega) (by rw [strs_length, cutS_length]) (by unfold maxLen; omega)
          simpa [cutS_length] using h2
/-- numbers as a list of ints in memory -/
def nIs (xs : List Nat) : List Value := i64s (nI xs)
/-- the words that are left -/
def restW (xs : List Nat) : List Nat := numL 8 (tk (8 * (xs.length / 8)) xs)
theorem restW_len (xs : List Nat) : (restW xs).length = xs.length / 8 := by
  unfold restW; rw [numL_length]; unfold tk; rw [if_pos (by omega), List.length_take]; omega

end Go.Proofs.YthonbfojpbfmgaaGreatDoor
