/- Package format: Bloom and BloomHas. -/
import Derived.Test.YtgobcaianpmbiaaBh
set_option linter.unusedVariables false
set_option linter.unusedSimpArgs false
set_option linter.unnecessarySimpa false
set_option maxRecDepth 20000
namespace Go.Proofs.Ytgobcaianpmbiaa
open Go.RowKit

def isFil (n k : Int) : Bool := decide (1 ≤ n ∧ n ≤ 64 ∧ 1 ≤ k ∧ k ≤ 8)
theorem isFilter_any (n k : Int) (w : World) : Calls Try.prog 22 #[.int .i64 n, .int .i64 k] w fun e w' => e = .returned (.bool (isFil n k)) ∧ w' = w := by
  go_enter Try.func22, Try.ntmps22
  unfold isFil
  go_wp2 <;> (go_ret; exact ⟨ret_bool (by simp [*]; try omega), rfl⟩)

theorem placesN_zero (h n : Nat) : placesN h 0 n = [] := rfl
theorem placesN_succ (h k n : Nat) : placesN h (k + 1) n = placesN h k n ++ [placeN h k n] := by simp [placesN, List.range_succ]
theorem mem_placesN_succ (h k n j : Nat) : decide (j ∈ placesN h (k + 1) n) = (decide (j ∈ placesN h k n) || decide (j = placeN h k n)) := by
  rw [placesN_succ]; simp
set_option maxHeartbeats 1000000 in
theorem addHash_any (g n cap k h : Nat) (ys : List Nat) (w : World) (hr : Row w g 50 (u64s ys)) (hn : ys.length = n) (hnc : n ≤ cap) (hn0 : 0 < n) (hn2 : n ≤ 64) (hk : k ≤ 8) (hh : h < 18446744073709551616) (hy : ∀ x ∈ ys, x < 18446744073709551616) :
    Calls Try.prog 23 #[.slice (some ⟨g, 0, none⟩) n cap, .int .i64 k, .int .u64 h] w fun e w' => e = .returned (.tuple #[]) ∧ ∃ zs : List Nat, Row w' g 50 (u64s zs) ∧ zs.length = n ∧ (∀ x ∈ zs, x < 18446744073709551616) ∧
      (∀ j, bitOf zs j = (bitOf ys j || decide (j ∈ placesN h k n))) ∧ Below g w w' ∧ w'.heap.size = w.heap.size ∧ ∀ b, b ≠ g → w'.heap[b]? = w.heap[b]? := by
  go_enter Try.func23, Try.ntmps23
  have HR := hid hr; have HN := hid hn; have HY := hid hy
  clear hr hn hy
  go_wp2
  go_loopw [9] (fun i wr => ∃ (t : Nat) (zs : List Nat), t ≤ k ∧ i = .int .i64 t ∧ Hid (Row wr g 50 (u64s zs)) ∧ Hid (zs.length = n ∧ ∀ x ∈ zs, x < 18446744073709551616) ∧ Hid (∀ j, bitOf zs j = (bitOf ys j || decide (j ∈ placesN h t n))) ∧ Hid (Below g w wr ∧ wr.heap.size = w.heap.size ∧ ∀ b, b ≠ g → wr.heap[b]? = w.heap[b]?)) (fun i _ => k - (intOf i).toNat)
  case atStart => exact ⟨0, ys, by omega, rfl, HR, hid ⟨HN.out, HY.out⟩, hid (by intro j; simp [placesN_zero]), hid ⟨Below.refl _ _, rfl, fun _ _ => rfl⟩⟩
  case round =>
    obtain ⟨t, zs, ht, rfl, hrow, hz, hbits, hbel⟩ := hrel
    by_cases hlt : t < k
    · have HP := hid (place_any h t n wr hh (by omega) hn0 hn2)
      have hpl := placeN_lt h t n hn0
      have HB : Hid (∀ j, bitOf (zs.set (placeN h t n / 64) (zs.getD (placeN h t n / 64) 0 ||| 2 ^ (placeN h t n % 64))) j = (bitOf ys j || decide (j ∈ placesN h (t + 1) n))) := by
        refine hid fun j => ?_
        rw [bitOf_set zs _ (by rw [hz.out.1]; exact hpl), hbits.out, mem_placesN_succ, Bool.or_assoc]
      generalize placeN h t n = p at *
      obtain ⟨d, hd⟩ : ∃ d, p / 64 = d := ⟨_, rfl⟩
      obtain ⟨r, hr'⟩ : ∃ r, p % 64 = r := ⟨_, rfl⟩
      have hd' : (p : Int) / 64 = (d : Int) := by omega
      have hrr : (p : Int) % 64 = (r : Int) := by omega
      have hr64 : r < 64 := by omega
      have hdl : d < zs.length := by have := hz.out.1; omega
      have hcell : wr.cell? ⟨g, d, none⟩ = some (.int .u64 ((zs.getD d 0 : Nat) : Int)) := by rw [hrow.out.cell]; exact u64s_get zs d hdl
      have hfr := hrow.out.frozen d
      have hyd : zs.getD d 0 < 18446744073709551616 := L.getD_lt (w := 64) (fun a ha => by have := hz.out.2 a ha; omega) d
      have HOR := hid (or_u64_bit (zs.getD d 0) r hyd hr64)
      have HS := hid (hrow.out.set d (.int .u64 ((zs.getD d 0 ||| 2 ^ r : Nat) : Int)))
      have HL := hid (set_lt64 zs hz.out.2 p)
      have HLEN := hid hz.out.1
      rw [hd, hr'] at HB HL
      clear hd hr' hrow hz hbits
      generalize hq : zs.getD d 0 = q at *
      clear hq
      have hdn : d < n := by rw [← HLEN.out]; exact hdl
      clear hdl
      go_wp2_with (go_at_call 42; refine HP.out.mono ?_; rintro e w1 ⟨rfl, hw⟩; replace hw := hw.symm; subst hw)
      go_roundw
      case rel =>
        rw [HOR.out]
        refine ⟨t + 1, zs.set d (q ||| 2 ^ r), by omega, by go_num, hid ?_, hid ⟨by rw [List.length_set]; exact HLEN.out, HL.out⟩, HB, hid ⟨below_set hbel.out.1 _ _ _ (Nat.le_refl _), by rw [← hbel.out.2.1]; simp [World.setCell], fun b hb => by rw [heap_setCell_other _ _ b _ hb]; exact hbel.out.2.2 b hb⟩⟩
        rw [← u64s_set]
        exact HS.out
      case measure => simp [intOf]; omega
    · obtain rfl : t = k := by omega
      go_wp2
      go_end0
      exact ⟨rfl, zs, hrow.out, hz.out.1, hz.out.2, hbits.out, hbel.out⟩
def hasAll (xs : List Nat) (h k : Nat) : Bool := (placesN h k xs.length).all (bitOf xs)
theorem hasAll_succ (xs : List Nat) (h k : Nat) : hasAll xs h (k + 1) = (hasAll xs h k && bitOf xs (placeN h k xs.length)) := by simp [hasAll, placesN_succ]
theorem hasAll_no (xs : List Nat) (h k t : Nat) (ht : t < k) (hb : bitOf xs (placeN h t xs.length) = false) : hasAll xs h k = false := by
  rw [← Bool.not_eq_true]
  intro hp
  simp only [hasAll, List.all_eq_true] at hp
  have := hp (placeN h t xs.length) (by simp only [placesN, List.mem_map, List.mem_range]; exact ⟨t, ht, rfl⟩)
  rw [hb] at this; cases this
set_option maxHeartbeats 1000000 in
theorem hasHash_any (v : Value) (xs : List Nat) (k h : Nat) (w : World) (hx : Rd w v xs.length 1 (u64s xs)) (hn0 : 0 < xs.length) (hn2 : xs.length ≤ 64) (hk : k ≤ 8) (hh : h < 18446744073709551616) (hy : ∀ x ∈ xs, x < 18446744073709551616) :
    Calls Try.prog 30 #[v, .int .i64 k, .int .u64 h] w fun e w' => e = .returned (.bool (hasAll xs h k)) ∧ w' = w := by
  obtain ⟨A, ca, rfl, hlc, hcm, hA⟩ := hx.form
  clear hx
  obtain ⟨n, hn⟩ : ∃ n, xs.length = n := ⟨_, rfl⟩
  have HN := hid hn
  rw [hn] at hlc hA hn0 hn2 ⊢
  clear hn
  go_enter Try.func30, Try.ntmps30
  go_wp2
  go_loop [10] (fun i => ∃ t : Nat, t ≤ k ∧ i = .int .i64 t ∧ hasAll xs h t = true) (fun i => k - (intOf i).toNat)
  case atStart => exact ⟨0, by omega, rfl, rfl⟩
  case round =>
    obtain ⟨t, ht, rfl, hall⟩ := hrel
    have HALL := hid hall
    clear hall
    by_cases hlt : t < k
    · have HP := hid (place_any h t n w hh (by omega) hn0 hn2)
      have hpl := placeN_lt h t n hn0
      have HNO := hid (hasAll_no xs h k t hlt)
      have HSU := hid (hasAll_succ xs h t)
      rw [HN.out] at HNO HSU
      generalize placeN h t n = p at *
      obtain ⟨d, hd⟩ : ∃ d, p / 64 = d := ⟨_, rfl⟩
      obtain ⟨r, hr'⟩ : ∃ r, p % 64 = r := ⟨_, rfl⟩
      have hd' : (p : Int) / 64 = (d : Int) := by omega
      have hrr : (p : Int) % 64 = (r : Int) := by omega
      have hr64 : r < 64 := by omega
      have hdn : d < n := by omega
      have hdl : d < xs.length := by rw [HN.out]; exact hdn
      obtain ⟨b, o, rfl, hs⟩ := hA (by omega)
      have hcell := hs.word d hdl
      have hyd : xs.getD d 0 < 18446744073709551616 := L.getD_lt (w := 64) (fun a ha => by have := hy a ha; omega) d
      have hbt : bitOf xs p = (xs.getD d 0).testBit r := by unfold bitOf; rw [hd, hr']
      rw [hbt] at HNO HSU
      have HT := hid (bit_test0 (xs.getD d 0) r hyd)
      generalize xs.getD d 0 = x at *
      generalize x.testBit r = bt at *
      clear hd hr' hs hA hdl hbt hyd
      cases bt
      · have ht0 := HT.out
        have HNO2 := hid (HNO.out rfl)
        go_wp2_with (go_at_call 42; refine HP.out.mono ?_; rintro e w1 ⟨rfl, hw⟩; replace hw := hw.symm; subst hw)
        go_ret
        exact ⟨ret_bool HNO2.out.symm, rfl⟩
      · have ht0 := HT.out
        go_wp2_with (go_at_call 42; refine HP.out.mono ?_; rintro e w1 ⟨rfl, hw⟩; replace hw := hw.symm; subst hw)
        go_round
        case rel => exact ⟨t + 1, by omega, by go_num, by rw [HSU.out, HALL.out]; rfl⟩
        case measure => simp [intOf]; omega
    · obtain rfl : t = k := by omega
      go_wp2
      go_ret
      exact ⟨ret_bool HALL.out.symm, rfl⟩

/-- may a chunk of the kind hold these cells? -/
def areC (k : Int) (cs : List C3) : Bool := isKind k && decide (cs.length ≤ 65536) && cs.all (ofK k)
theorem all_take_succ (f : C3 → Bool) (cs : List C3) (k : Nat) (hk : k < cs.length) : (cs.take (k + 1)).all f = ((cs.take k).all f && f (cs.getD k C3.df)) := by
  rw [List.take_succ_eq_append_getElem hk, List.all_append]; simp [List.getD, List.getElem?_eq_getElem hk]
theorem all_no (f : C3 → Bool) (cs : List C3) (k : Nat) (hk : k < cs.length) (h : f (cs.getD k C3.df) = false) : cs.all f = false := by
  rw [← Bool.not_eq_true]
  intro hp
  simp only [List.all_eq_true] at hp
  have := hp (cs.getD k C3.df) (by simp [List.getD, List.getElem?_eq_getElem hk])
  rw [h] at this; cases this
set_option maxHeartbeats 1000000 in
theorem areCells_any (v : Value) (cs : List C3) (k : Int) (w : World) (hx : Rd w v cs.length 3 (cells3 cs)) (hl : cs.length ≤ 17592186044416) :
    Calls Try.prog 21 #[.int .i64 k, v] w fun e w' => e = .returned (.bool (areC k cs)) ∧ Below w.heap.size w w' := by
  obtain ⟨A, ca, rfl, hlc, hcm, hA⟩ := hx.form
  clear hx
  have HK := hid (fun w2 : World => isKindA k w2)
  have HR := hid (fun w2 : World => isRowsA (cs.length : Int) w2)
  have HO := hid (fun (c : C3) (w2 : World) => ofKind_any c k w2)
  obtain ⟨R, hR⟩ : ∃ R, areC k cs = R := ⟨_, rfl⟩
  have HRR := hid hR
  rw [hR]
  unfold areC at hR
  obtain ⟨n, hn⟩ : ∃ n, cs.length = n := ⟨_, rfl⟩
  have HN := hid hn
  rw [hn] at hR hlc hA hl HR ⊢
  clear hn
  cases hk : isKind k
  · rw [hk] at HK hR
    clear hA
    have hR' := hR.symm
    simp only [Bool.false_and] at hR'
    subst hR'
    clear hR
    go_enter Try.func21, Try.ntmps21
    go_wp2_with (go_at_call 39; refine (HK.out _).mono ?_; rintro e w1 ⟨rfl, hw⟩; replace hw := hw.symm; subst hw)
    go_ret
    exact ⟨rfl, Below.refl _ _⟩
  rw [hk] at HK hR
  cases hr : isRows (n : Int)
  · rw [hr] at HR
    clear hA
    have : ¬ n ≤ 65536 := by intro h; unfold isRows at hr; simp at hr; omega
    have hR' := hR.symm
    simp only [this, decide_false, Bool.and_false, Bool.false_and] at hR'
    subst hR'
    clear hR
    go_enter Try.func21, Try.ntmps21
    go_wp2_with (first | (go_at_call 39; refine (HK.out _).mono ?_; rintro e w1 ⟨rfl, hw⟩; replace hw := hw.symm; subst hw) | (go_at_call 40; refine (HR.out _).mono ?_; rintro e w1 ⟨rfl, hw⟩; replace hw := hw.symm; subst hw))
    go_ret
    exact ⟨rfl, Below.refl _ _⟩
  rw [hr] at HR
  have hn5 : n ≤ 65536 := by unfold isRows at hr; simp at hr; omega
  have hR2 : cs.all (ofK k) = R := by rw [← hR]; simp [hn5]
  have HALL := hid hR2
  have HNO : Hid (∀ t, t < n → ofK k (cs.getD t C3.df) = false → R = false) := hid (fun t ht h => by rw [← HALL.out]; exact all_no _ cs t (by rw [HN.out]; exact ht) h)
  clear hR hR2 hk hr
  go_enter Try.func21, Try.ntmps21
  go_wp2_with (first | (go_at_call 39; refine (HK.out _).mono ?_; rintro e w1 ⟨rfl, hw⟩; replace hw := hw.symm; subst hw) | (go_at_call 40; refine (HR.out _).mono ?_; rintro e w1 ⟨rfl, hw⟩; replace hw := hw.symm; subst hw))
  go_loopw [18] (fun i wr => ∃ t : Nat, t ≤ n ∧ i = .int .i64 t ∧ Hid ((cs.take t).all (ofK k) = true) ∧ Below w.heap.size w wr) (fun i _ => n - (intOf i).toNat)
  case atStart => exact ⟨0, by omega, rfl, hid (by simp), Below.refl _ _⟩
  case round =>
    obtain ⟨t, ht, rfl, hall, hb⟩ := hrel
    by_cases hlt : t < n
    · have htl : t < cs.length := by rw [HN.out]; exact hlt
      obtain ⟨b, o, rfl, hs⟩ := hA (by omega)
      obtain ⟨c0, c1, c2⟩ := (hs.mono (hb.mono (Nat.le_refl _))).c3 t htl
      have HSU := hid (all_take_succ (ofK k) cs t htl)
      have HN2 := hid (HNO.out t hlt)
      have HB := hid hb
      have hsz := hb.size
      clear hs hA hb htl
      generalize cs.getD t C3.df = c at *
      have HC := hid (fun w2 : World => HO.out c w2)
      unfold C3.v at HC
      generalize ofK k c = kk at *
      obtain ⟨x, y, z⟩ := c
      simp only at c0 c1 c2 HC
      cases kk
      · have HN3 := hid (HN2.out rfl)
        go_wp2_with (go_at_call 41; refine (HC.out _).mono ?_; rintro e w1 ⟨rfl, hb1⟩; have HB1 := hid hb1; clear hb1)
        go_ret
        refine ⟨ret_bool HN3.out.symm, ?_⟩
        exact Below.then' (HB.out.alloc hsz _) HB1.out (by simp; omega)
      · go_wp2_with (go_at_call 41; refine (HC.out _).mono ?_; rintro e w1 ⟨rfl, hb1⟩; have HB1 := hid hb1; clear hb1)
        go_roundw
        case rel =>
          refine ⟨t + 1, by omega, by go_num, hid (by rw [HSU.out, hall.out]; rfl), ?_⟩
          exact Below.then' (HB.out.alloc hsz _) HB1.out (by simp; omega)
        case measure => simp [intOf]; omega
    · obtain rfl : t = n := by omega
      clear hA
      have HT : Hid (R = true) := hid (by rw [← HALL.out, ← hall.out, List.take_of_length_le (by rw [HN.out]; exact Nat.le_refl _)])
      go_wp2
      go_ret
      exact ⟨ret_bool HT.out.symm, hb⟩
end Go.Proofs.Ytgobcaianpmbiaa
