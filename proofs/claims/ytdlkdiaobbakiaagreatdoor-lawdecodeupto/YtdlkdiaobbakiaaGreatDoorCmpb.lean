/- Package bitvec's marking of lanes in a bitmap, and the bits that a comparison of words sets. -/
import Derived.Test.YtdlkdiaobbakiaaGreatDoorCmp
set_option linter.unusedVariables false
set_option linter.unusedSimpArgs false
set_option linter.unnecessarySimpa false
set_option maxRecDepth 20000
namespace Go.Proofs.YtdlkdiaobbakiaaGreatDoor
open Go.RowKit

/-- the table of math/bits lies where its variable lies -/
def Tab (w : World) : Prop := ∀ j, j < 64 → w.cell? ⟨0, j, none⟩ = some (.int .u8 ((Lib.deBruijn64tab.getD j 0 : Nat) : Int))
theorem Tab.mono {w w' : World} {B : Nat} (h : Tab w) (hb : Below B w w') (hB : 0 < B) : Tab w' := fun j hj => by rw [← h j hj]; exact hb.cell (p := ⟨0, j, none⟩) hB
theorem Tab.lt {w : World} (h : Tab w) : 0 < w.heap.size := World.block_lt_of_cell? w _ (h 0 (by omega))

theorem neg_u64 (x : Nat) (h0 : x ≠ 0) (h : x < 18446744073709551616) : IntKind.u64.wrap (-(x : Int)) = ((18446744073709551616 - x : Nat) : Int) := by rw [IntKind.wrap_u64]; omega
theorem tz_key (x : Nat) (h0 : x ≠ 0) (h : x < 18446744073709551616) :
    IntKind.u64.wrap (bits BinOp.and IntKind.u64 (x : Int) (IntKind.u64.wrap (-(x : Int))) * 285870213051353865) / 288230376151711744 =
      ((2 ^ Lib.ctz 64 x * 285870213051353865 % 18446744073709551616 / 288230376151711744 : Nat) : Int) := by
  have hl := Lib.lowest_bit 64 x h0 h
  rw [neg_u64 x h0 h, u64_and_nat _ _ h (by omega)]
  rw [show x &&& 18446744073709551616 - x = 2 ^ Lib.ctz 64 x from hl.1, IntKind.wrap_u64]
  generalize Lib.ctz 64 x = t
  generalize 2 ^ t = y
  omega
set_option maxHeartbeats 1000000 in
theorem tz_core (x k idx : Nat) (w : World) (hx0 : ((x : Int) == 0) = false)
    (key : IntKind.u64.wrap (bits BinOp.and IntKind.u64 (x : Int) (IntKind.u64.wrap (-(x : Int))) * 285870213051353865) / 288230376151711744 = (idx : Int))
    (hi : idx < 64) (hcell : w.cell? ⟨0, idx, none⟩ = some (.int .u8 (k : Int))) (hk : k < 64) :
    Calls Tryz.prog 196 #[.int .u64 x] w fun e w' => e = .returned (.int .i64 (k : Int)) ∧ w' = w := by
  go_enter Tryz.func196, Tryz.ntmps196
  go_wp2_with (simp only [key])
  go_ret
  exact ⟨rfl, rfl⟩
theorem trailingZeros_any (x : Nat) (w : World) (h0 : x ≠ 0) (h : x < 18446744073709551616) (ht : Tab w) :
    Calls Tryz.prog 196 #[.int .u64 x] w fun e w' => e = .returned (.int .i64 (Lib.ctz 64 x : Nat)) ∧ w' = w := by
  have hk : Lib.ctz 64 x < 64 := (Lib.lowest_bit 64 x h0 h).2
  have hdb := Lib.deBruijn64_at _ hk
  refine tz_core x (Lib.ctz 64 x) _ w (by simpa using h0) (tz_key x h0 h) hdb.1 ?_ hk
  rw [ht _ hdb.1, hdb.2]

set_option maxHeartbeats 400000 in
/-- one bit more in a bitmap -/
theorem setBit_any (g n cap i : Nat) (ys : List Nat) (w : World) (hr : Row w g 68 (u64s ys)) (hn : ys.length = n) (hnc : n ≤ cap) (hi : i < 64 * n) (hy : ∀ x ∈ ys, x < 18446744073709551616) (hi2 : i ≤ 9223372036854775807) :
    Calls Tryz.prog 112 #[.slice (some ⟨g, 0, none⟩) n cap, .int .i64 i] w fun e w' => e = .returned (.tuple #[]) ∧
      Row w' g 68 (u64s (ys.set (i / 64) (ys.getD (i / 64) 0 ||| 2 ^ (i % 64)))) ∧ Below g w w' ∧ w'.heap.size = w.heap.size ∧ ∀ k, k ≠ g → w'.heap[k]? = w.heap[k]? := by
  subst hn
  obtain ⟨d, hd⟩ : ∃ d, i / 64 = d := ⟨_, rfl⟩
  obtain ⟨r, hr'⟩ : ∃ r, i % 64 = r := ⟨_, rfl⟩
  have hd' : (i : Int) / 64 = (d : Int) := by omega
  have hrr : (i : Int) % 64 = (r : Int) := by omega
  have hr64 : r < 64 := by omega
  have hdl : d < ys.length := by omega
  have hcell : w.cell? ⟨g, d, none⟩ = some (.int .u64 ((ys.getD d 0 : Nat) : Int)) := by rw [hr.cell]; exact u64s_get ys d hdl
  have hfr := hr.frozen d
  have hyd : ys.getD d 0 < 18446744073709551616 := L.getD_lt (w := 64) (fun a ha => by have := hy a ha; omega) d
  have HOR := hid (or_u64_bit (ys.getD d 0) r hyd hr64)
  have HS := hid (hr.set d (.int .u64 ((ys.getD d 0 ||| 2 ^ r : Nat) : Int)))
  rw [hd, hr']
  clear hd hr' hr
  generalize hq : ys.getD d 0 = q at *
  clear hq
  go_enter Tryz.func112, Tryz.ntmps112
  go_wp2
  go_end0
  rw [HOR.out]
  refine ⟨rfl, ?_, below_set (Below.refl _ _) _ _ _ (Nat.le_refl _), by simp [World.setCell], fun k hk => heap_setCell_other _ _ k _ hk⟩
  rw [← u64s_set]
  exact HS.out

theorem everyLane_any (wd p : Nat) (w : World) (h0 : 0 < wd) (hk : wd ≤ 64) (hp : 64 / wd = p) :
    Calls Tryz.prog 181 #[.int .i64 wd] w fun e w' => e = .returned (.int .u64 (L.wordOf wd (List.replicate p 1) : Nat)) ∧ w' = w := by
  have HP := hid hp
  have hp64 : p ≤ 64 := by rw [← hp]; exact Nat.div_le_self _ _
  have HPW : Hid (p * wd ≤ 64) := by refine hid ?_; rw [← hp]; exact L.per_mul wd
  clear hp
  go_enter Tryz.func181, Tryz.ntmps181
  go_wp2_with (go_at_call 150; refine (lanesPerWord_any wd p _ (by omega) (by omega) HP.out).mono ?_; rintro e w' ⟨rfl, rfl⟩)
  go_loop [3, 7] (fun u i => ∃ j : Nat, j ≤ p ∧ i = .int .i64 j ∧ u = .int .u64 (L.wordOf wd (List.replicate j 1) : Nat)) (fun _ i => p - (intOf i).toNat)
  case atStart => exact ⟨0, by omega, rfl, rfl⟩
  case round =>
    obtain ⟨j, hj, rfl, rfl⟩ := hrel
    have h1w : (1 : Nat) < 2 ^ wd := Nat.one_lt_two_pow (by omega)
    have hlt64 : L.wordOf wd (List.replicate j 1) < 2 ^ (wd * j) := by
      have := L.wordOf_lt wd (List.replicate j 1) fun x hx => by rw [List.eq_of_mem_replicate hx]; exact h1w
      rwa [List.length_replicate] at this
    by_cases hlt : j < p
    · have hsn : L.wordOf wd (List.replicate (j + 1) 1) = L.wordOf wd (List.replicate j 1) + 1 * 2 ^ (wd * j) := by
        rw [List.replicate_succ', L.wordOf_snoc, List.length_replicate]
      have hjw : (j + 1) * wd ≤ 64 := Nat.le_trans (Nat.mul_le_mul_right wd hlt) HPW.out
      have hor := or_lane (L.wordOf wd (List.replicate j 1)) 1 wd j hlt64 h1w hjw
      rw [← hsn] at hor
      obtain ⟨q, hq⟩ : ∃ q, j * wd = q := ⟨_, rfl⟩
      have hq' : (j : Int) * (wd : Int) = (q : Int) := by rw [← hq]; simp
      have hq64 : q ≤ 64 := by rw [← hq]; exact Nat.le_trans (Nat.mul_le_mul_right wd (by omega)) HPW.out
      rw [hq, show ((1 : Nat) : Int) * 2 ^ q = 2 ^ q from by simp] at hor
      have HO := hid hor
      clear hq hsn hlt64 hor h1w
      generalize L.wordOf wd (List.replicate j 1) = a at *
      go_wp2
      go_round
      case rel => exact ⟨j + 1, by omega, by go_num, by rw [HO.out]⟩
      case measure => simp [intOf]; omega
    · go_wp2
      go_ret
      rw [show j = p from by omega]
      exact ⟨rfl, rfl⟩

/-- does a hit, laid from 'first' on, fall at place i? -/
def hitAt (wd first hits i : Nat) : Bool := (List.range 64).any fun p => hits.testBit p && decide (first + p / wd = i)
theorem hitAt_zero (wd first i : Nat) : hitAt wd first 0 i = false := by simp [hitAt]
theorem hitAt_clear (wd first h i : Nat) (h0 : h ≠ 0) (hlt : h < 18446744073709551616) :
    hitAt wd first h i = (hitAt wd first (h &&& (h - 1)) i || decide (i = first + Lib.ctz 64 h / wd)) := by
  have hc := clear_lowest h h0 hlt
  have hk : Lib.ctz 64 h < 64 := (Lib.lowest_bit 64 h h0 hlt).2
  rw [Bool.eq_iff_iff]
  simp only [hitAt, Bool.or_eq_true, List.any_eq_true, List.mem_range, Bool.and_eq_true, decide_eq_true_eq]
  constructor
  · rintro ⟨p, hp, h1, h2⟩
    by_cases hpt : p = Lib.ctz 64 h
    · right; rw [← h2, hpt]
    · left; exact ⟨p, hp, by rw [(hc p).1, h1]; simp [hpt], h2⟩
  · rintro (⟨p, hp, h1, h2⟩ | h2)
    · rw [(hc p).1] at h1
      simp only [Bool.and_eq_true] at h1
      exact ⟨p, hp, h1.1, h2⟩
    · exact ⟨Lib.ctz 64 h, hk, (hc 0).2.1, h2.symm⟩

set_option maxHeartbeats 2000000 in
theorem markLanes_any (g n cap first wd hits : Nat) (ys : List Nat) (w : World) (ht : Tab w) (hgt : 0 < g) (hr : Row w g 68 (u64s ys)) (hn : ys.length = n) (hnc : n ≤ cap) (hn2 : n ≤ 65536) (hy : ∀ x ∈ ys, x < 18446744073709551616)
    (h0 : 0 < wd) (hwd : wd ≤ 64) (hh : hits < 18446744073709551616) (hf : first ≤ 65536) (hfit : ∀ p, hits.testBit p = true → first + p / wd < 64 * n) :
    Calls Tryz.prog 183 #[.slice (some ⟨g, 0, none⟩) n cap, .int .i64 first, .int .i64 wd, .int .u64 hits] w fun e w' => e = .returned (.tuple #[]) ∧
      (∃ zs : List Nat, Row w' g 68 (u64s zs) ∧ zs.length = n ∧ (∀ x ∈ zs, x < 18446744073709551616) ∧ ∀ i, bitOf zs i = (bitOf ys i || hitAt wd first hits i)) ∧ Below g w w' ∧ w'.heap.size = w.heap.size := by
  have HFIT := hid hfit; have HY := hid hy; have HR := hid hr; have HN := hid hn; have HT := hid ht
  clear hfit hy hr hn ht
  go_enter Tryz.func183, Tryz.ntmps183
  go_wp2
  go_loopw [3] (fun u wr => ∃ (h : Nat) (zs : List Nat), u = .int .u64 h ∧ h < 18446744073709551616 ∧ Row wr g 68 (u64s zs) ∧ zs.length = n ∧ (∀ x ∈ zs, x < 18446744073709551616) ∧
      (∀ p, h.testBit p = true → hits.testBit p = true) ∧ (∀ i, (bitOf zs i || hitAt wd first h i) = (bitOf ys i || hitAt wd first hits i)) ∧ Below g w wr ∧ Hid (wr.heap.size = w.heap.size)) (fun u _ => (intOf u).toNat)
  case atStart => exact ⟨hits, ys, rfl, hh, HR.out, HN.out, HY.out, fun p h => h, fun i => rfl, Below.refl _ _, rfl⟩
  case round =>
    obtain ⟨h, zs, rfl, hlt, hr, hzn, hz, hsub, hacc, hb, hsz⟩ := hrel
    have HRZ := hid hr; have HZN := hid hzn; have HZ := hid hz; have HSUB := hid hsub; have HACC := hid hacc
    clear hr hzn hz hsub hacc
    by_cases hz0 : h = 0
    · subst hz0
      go_wp2
      go_end0
      refine ⟨rfl, ⟨zs, HRZ.out, HZN.out, HZ.out, fun i => ?_⟩, hb, hsz.out⟩
      have := HACC.out i
      rw [hitAt_zero, Bool.or_false] at this
      exact this
    · have hc := clear_lowest h hz0 hlt
      have hk : Lib.ctz 64 h < 64 := (Lib.lowest_bit 64 h hz0 hlt).2
      have HTZ := hid (trailingZeros_any h wr hz0 hlt (HT.out.mono hb hgt))
      have HCL := hid (fun i => hitAt_clear wd first h i hz0 hlt)
      have hfi := HFIT.out _ (HSUB.out _ (hc 0).2.1)
      have HC := hid hc
      have hne : ((h : Int) != 0) = true := by rw [bne_iff_ne]; omega
      obtain ⟨t, htt⟩ : ∃ t, Lib.ctz 64 h = t := ⟨_, rfl⟩
      rw [htt] at hk hfi HTZ HCL HC
      obtain ⟨d, hd⟩ : ∃ d, t / wd = d := ⟨_, rfl⟩
      have hd' : (t : Int) / (wd : Int) = (d : Int) := by rw [← hd]; simp
      have hdt : d ≤ t := by rw [← hd]; exact Nat.div_le_self _ _
      rw [hd] at hfi HCL
      have hh1 : ((h : Int) - 1) = ((h - 1 : Nat) : Int) := by omega
      have HAND : Hid (bits BinOp.and IntKind.u64 (h : Int) ((h : Int) - 1) = ((h &&& (h - 1) : Nat) : Int)) := by refine hid ?_; rw [hh1]; exact u64_and_nat _ _ hlt (by omega)
      clear hc htt hd hh1
      go_wp2_with (first
        | (go_at_call 196; refine HTZ.out.mono ?_; rintro e w' ⟨rfl, rfl⟩)
        | (go_at_call 112; refine (setBit_any g n cap (first + d) zs _ HRZ.out HZN.out hnc hfi HZ.out (by omega)).mono ?_; rintro e w2 ⟨rfl, hr2, hb2, hs2, _⟩; have HS2 := hid hs2; clear hs2))
      go_roundw
      case rel =>
        refine ⟨h &&& (h - 1), _, by rw [HAND.out], and_lt64 _ hlt, hr2, by rw [List.length_set]; exact HZN.out, set_lt64 zs HZ.out _, fun p hp => ?_, fun i => ?_, hb.trans hb2, ?_⟩
        · rw [(HC.out p).1] at hp
          simp only [Bool.and_eq_true] at hp
          exact HSUB.out p hp.1
        · rw [← HACC.out i, bitOf_set zs (first + d) (by rw [HZN.out]; exact hfi), HCL.out i]
          cases bitOf zs i <;> cases hitAt wd first (h &&& (h - 1)) i <;> cases decide (i = first + d) <;> rfl
        · show _ = _; rw [HS2.out]; exact hsz.out
      case measure =>
        rw [HAND.out]
        simp only [intOf, Int.toNat_natCast]
        exact (HC.out 0).2.2
end Go.Proofs.YtdlkdiaobbakiaaGreatDoor
