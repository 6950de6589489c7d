/- Package kernel: Fold, over the two kinds' folds. -/
import Derived.Test.YthonbfojpbfmgaaGreatDoorLawfolduptoB24
import Derived.Test.YthonbfojpbfmgaaGreatDoorLawfolduptoB3
import Derived.Test.YthonbfojpbfmgaaGreatDoorLawfolduptoB4
import Derived.Test.YthonbfojpbfmgaaGreatDoorLawfolduptoB28
import Derived.Test.YthonbfojpbfmgaaGreatDoorLawfolduptoB30
import Derived.Test.YthonbfojpbfmgaaGreatDoorLawfolduptoB16
import Derived.Test.YthonbfojpbfmgaaGreatDoorLawfolduptoB1
import Derived.Deep.QuietTactic
import Derived.Test.YthonbfojpbfmgaaGreatDoorLawfolduptoB13
import Derived.Deep.RegionHeld3
import Derived.Deep.CutRange
import Derived.Test.YthonbfojpbfmgaaGreatDoorLawfolduptoB0
set_option linter.unusedVariables false
set_option linter.unusedSimpArgs false
set_option linter.unnecessarySimpa false
set_option maxRecDepth 100000
namespace Go.Proofs.YthonbfojpbfmgaaGreatDoor
open Go.RowKit

theorem okPack_rg {n : Int} {xs : List Nat} (h : okPack 1 n xs = true) : 0 ≤ n ∧ n ≤ 65536 := by
  by_cases hc : 0 ≤ (1 : Int) ∧ (1 : Int) ≤ 64 ∧ 0 ≤ n ∧ n ≤ 65536
  · exact hc.2.2
  · rw [okPack_not xs hc] at h; cases h
/-- the fold of one kind: what it says of the Part and of the code -/
def FoldSays (Q : P9 → Int → Prop) (w : World) (e : Ending) (w' : World) : Prop := Below w.heap.size w w' ∧ ∃ p c, e = .returned (.tuple #[p.v, .int .i64 c]) ∧ Q p c
/-- what Fold says -/
def FoldK (kind rows : Int) (sel : List Nat) (QI QS : P9 → Int → Prop) (p : P9) (c : Int) : Prop :=
  ((isKind kind && okPack 1 rows sel) = false ∧ p = nilP ∧ c = 5) ∨ (kind = 1 ∧ okPack 1 rows sel = true ∧ QI p c) ∨ (kind = 2 ∧ okPack 1 rows sel = true ∧ QS p c)
set_option maxHeartbeats 8000000 in
theorem Fold_core (w : World) (v sv : Value) (xs sel : List Nat) (kind rows : Int) (QI QS : P9 → Int → Prop) (hv : Rd w v xs.length 1 (u8s xs)) (hs : Rd w sv sel.length 1 (u64s sel)) (hsv : ∀ x ∈ sel, x < 18446744073709551616) (hsl : sel.length ≤ maxLen)
    (hI : kind = 1 → okPack 1 rows sel = true → ∀ w2, Below w.heap.size w w2 → Calls Tryz.prog 38 #[.iface 68 (.agg #[]), .int .i64 rows, v, sv] w2 (FoldSays QI w2))
    (hS : kind = 2 → okPack 1 rows sel = true → ∀ w2, Below w.heap.size w w2 → Calls Tryz.prog 37 #[.iface 66 (.agg #[]), .int .i64 rows, v, sv] w2 (FoldSays QS w2)) :
    Calls Tryz.prog 16 #[.int .i64 kind, .int .i64 rows, v, sv] w (FoldSays (FoldK kind rows sel QI QS) w) := by
  obtain ⟨s, hsz⟩ : ∃ s, w.heap.size = s := ⟨_, rfl⟩
  have HIK := hid (fun (w2 : World) => IsKind_any kind w2)
  have HRA := hid (fun (w2 : World) (h : Below w.heap.size w w2) => Rank_any sv sel rows rows w2 (hs.mono h) hsv hsl)
  have HI := hid hI; have HS := hid hS
  obtain ⟨A0, c0, rfl, _, _, _⟩ := hv.form
  obtain ⟨As, cs, rfl, _, _, _⟩ := hs.form
  clear hv hs hI hS hsv hsl
  obtain ⟨sn, hsn⟩ : ∃ n, sel.length = n := ⟨_, rfl⟩
  obtain ⟨xn, hxn⟩ : ∃ n, xs.length = n := ⟨_, rfl⟩
  simp only [hsn, hxn] at HRA HI HS ⊢
  clear hsn hxn
  obtain ⟨PK, hPK⟩ : ∃ PK, FoldK kind rows sel QI QS = PK := ⟨_, rfl⟩
  have HPK := hid hPK
  rw [hPK]
  clear hPK
  have HB0 := hid ((brefl w).alloc (Nat.le_refl _) (.cells #[.int .i64 0, .int .i64 0, .int .u64 0, .bool false, .int .i64 0, .string ⟨#[]⟩, .bool false, .int .i64 0, .string ⟨#[]⟩] 44))
  have HR0 : Hid (Row (w.alloc (.cells #[.int .i64 0, .int .i64 0, .int .u64 0, .bool false, .int .i64 0, .string ⟨#[]⟩, .bool false, .int .i64 0, .string ⟨#[]⟩] 44)) s 44 [.int .i64 0, .int .i64 0, .int .u64 0, .bool false, .int .i64 0, .string ⟨#[]⟩, .bool false, .int .i64 0, .string ⟨#[]⟩]) := hid (by rw [← hsz]; unfold Row; rw [heap_alloc_new])
  -- the end: the Part p, the code c, in the result's cell
  have FIN := hid (fun (w1 : World) (p : P9) (c : Int) (hr : Row w1 s 44 [.int .i64 0, .int .i64 0, .int .u64 0, .bool false, .int .i64 0, .string ⟨#[]⟩, .bool false, .int .i64 0, .string ⟨#[]⟩]) (hb : Below w.heap.size w w1) =>
    (And.intro (set9_below hb s (by omega) (.int .i64 p.ct) (.int .i64 p.hi) (.int .u64 p.lo) (.bool p.mn.n) (.int .i64 p.mn.i) (.string p.mn.s) (.bool p.mx.n) (.int .i64 p.mx.i) (.string p.mx.s))
      (row9 (set9_row hr (.int .i64 p.ct) (.int .i64 p.hi) (.int .u64 p.lo) (.bool p.mn.n) (.int .i64 p.mn.i) (.string p.mn.s) (.bool p.mx.n) (.int .i64 p.mx.i) (.string p.mx.s)))))
  have FIN0 := hid (fun (w1 : World) (hr : Row w1 s 44 [.int .i64 0, .int .i64 0, .int .u64 0, .bool false, .int .i64 0, .string ⟨#[]⟩, .bool false, .int .i64 0, .string ⟨#[]⟩]) (hb : Below w.heap.size w w1) =>
    (And.intro (set9_below hb s (by omega) (.int .i64 0) (.int .i64 0) (.int .u64 0) (.bool false) (.int .i64 0) (.string ⟨#[]⟩) (.bool false) (.int .i64 0) (.string ⟨#[]⟩))
      (row9 (set9_row hr (.int .i64 0) (.int .i64 0) (.int .u64 0) (.bool false) (.int .i64 0) (.string ⟨#[]⟩) (.bool false) (.int .i64 0) (.string ⟨#[]⟩)))))
  unfold set9 at FIN FIN0
  obtain ⟨rk, hrk⟩ : ∃ rk, rankR rows rows sel = rk := ⟨_, rfl⟩
  go_enter Tryz.func16, Tryz.ntmps16
  go_upto_region 1 with fail
  generalize w.alloc (.cells #[.int .i64 0, .int .i64 0, .int .u64 0, .bool false, .int .i64 0, .string ⟨#[]⟩, .bool false, .int .i64 0, .string ⟨#[]⟩] 44) = w0 at *
  obtain ⟨y0, y1, y2, y3, y4, y5, y6, y7, y8⟩ := row9 HR0.out
  obtain ⟨f0, f1, f2, f3, f4, f5, f6, f7, f8⟩ := frz9 HR0.out
  have HRA0 := hid (HRA.out w0 HB0.out)
  rw [hrk] at HRA0
  obtain ⟨kk, hkk⟩ : ∃ b, isKind kind = b := ⟨_, rfl⟩
  rw [hkk] at HIK
  cases kk
  · have HE := hid (FIN0.out w0 HR0.out HB0.out)
    go_wp2_with (go_at_call 27; refine (HIK.out _).mono ?_; rintro e w1 ⟨rfl, hw⟩; replace hw := hw.symm; subst hw)
    obtain ⟨hbf, z0, z1, z2, z3, z4, z5, z6, z7, z8⟩ := HE.out
    refine bodyPost_ret (v := .tuple #[.agg #[.int .i64 0, .int .i64 0, .int .u64 0, .bool false, .int .i64 0, .string ⟨#[]⟩, .bool false, .int .i64 0, .string ⟨#[]⟩], .int .i64 5]) ?_ rfl ⟨hbf, nilP, 5, rfl, ?_⟩
    · clear y0 y1 y2 y3 y4 y5 y6 y7 y8
      simp [results, Tryz.results16, go_sem, z0, z1, z2, z3, z4, z5, z6, z7, z8]
    · rw [← HPK.out]; exact .inl ⟨by rw [hkk]; rfl, rfl, rfl⟩
  · by_cases hok : okPack 1 rows sel = true
    rotate_left
    · have hrk5 : rk = -1 := by rw [← hrk]; unfold rankR; rw [if_neg (fun h => hok h.1)]
      subst hrk5
      have hok2 : okPack 1 rows sel = false := by simpa using hok
      go_wp2_with (first
        | (go_at_call 27; refine (HIK.out _).mono ?_; rintro e w1 ⟨rfl, hw⟩; replace hw := hw.symm; subst hw)
        | (go_at_call 36; refine HRA0.out.mono ?_; rintro e w1 ⟨rfl, nd, rfl⟩))
      have HE := hid (FIN0.out (w0.drewN nd) HR0.out (bdrew HB0.out nd))
      obtain ⟨hbf, z0, z1, z2, z3, z4, z5, z6, z7, z8⟩ := HE.out
      refine bodyPost_ret (v := .tuple #[.agg #[.int .i64 0, .int .i64 0, .int .u64 0, .bool false, .int .i64 0, .string ⟨#[]⟩, .bool false, .int .i64 0, .string ⟨#[]⟩], .int .i64 5]) ?_ rfl ⟨hbf, nilP, 5, rfl, ?_⟩
      · clear y0 y1 y2 y3 y4 y5 y6 y7 y8
        simp [results, Tryz.results16, go_sem, z0, z1, z2, z3, z4, z5, z6, z7, z8]
      · rw [← HPK.out]; exact .inl ⟨by rw [hok2]; simp, rfl, rfl⟩
    · have hrk5 : 0 ≤ rk := by
        rw [← hrk]; unfold rankR; split <;> rename_i h
        · omega
        · exfalso; apply h
          refine ⟨hok, ?_, Int.le_refl _⟩
          exact (okPack_rg hok).1
      have hrn : ¬ rk < 0 := by omega
      have hk12 : kind = 1 ∨ kind = 2 := by unfold isKind at hkk; exact of_decide_eq_true hkk
      clear hrk hrk5
      rcases hk12 with rfl | rfl
      · have HIX := hid (HI.out rfl hok)
        clear HI HS
        go_wp2_with (first
          | (go_at_call 27; refine (HIK.out _).mono ?_; rintro e w1 ⟨rfl, hw⟩; replace hw := hw.symm; subst hw)
          | (go_at_call 36; refine HRA0.out.mono ?_; rintro e w1 ⟨rfl, nd, rfl⟩)
          | (go_at_call 38; refine (HIX.out _ (bdrew HB0.out nd)).mono ?_; rintro e w2 ⟨hb2, p, c, rfl, hq⟩; have HB2 : Hid (Below w0.heap.size w0 w2) := hid (bthen (bdrew (brefl w0) nd) hb2); have HQ := hid hq; have HR2 := hid (HR0.out.mono HB2.out); clear hb2 hq y0 y1 y2 y3 y4 y5 y6 y7 y8 f0 f1 f2 f3 f4 f5 f6 f7 f8; obtain ⟨y0, y1, y2, y3, y4, y5, y6, y7, y8⟩ := row9 HR2.out; obtain ⟨f0, f1, f2, f3, f4, f5, f6, f7, f8⟩ := frz9 HR2.out; unfold P9.v))
        have HE := hid (FIN.out w2 p c HR2.out (HB0.out.trans (HB2.out.mono HB0.out.size)))
        obtain ⟨hbf, z0, z1, z2, z3, z4, z5, z6, z7, z8⟩ := HE.out
        refine bodyPost_ret (v := .tuple #[p.v, .int .i64 c]) ?_ rfl ⟨hbf, p, c, rfl, ?_⟩
        · clear y0 y1 y2 y3 y4 y5 y6 y7 y8
          unfold P9.v
          simp [results, Tryz.results16, go_sem, z0, z1, z2, z3, z4, z5, z6, z7, z8]
        · rw [← HPK.out]; exact .inr (.inl ⟨rfl, hok, HQ.out⟩)
      · have HIX := hid (HS.out rfl hok)
        clear HI HS
        go_wp2_with (first
          | (go_at_call 27; refine (HIK.out _).mono ?_; rintro e w1 ⟨rfl, hw⟩; replace hw := hw.symm; subst hw)
          | (go_at_call 36; refine HRA0.out.mono ?_; rintro e w1 ⟨rfl, nd, rfl⟩)
          | (go_at_call 37; refine (HIX.out _ (bdrew HB0.out nd)).mono ?_; rintro e w2 ⟨hb2, p, c, rfl, hq⟩; have HB2 : Hid (Below w0.heap.size w0 w2) := hid (bthen (bdrew (brefl w0) nd) hb2); have HQ := hid hq; have HR2 := hid (HR0.out.mono HB2.out); clear hb2 hq y0 y1 y2 y3 y4 y5 y6 y7 y8 f0 f1 f2 f3 f4 f5 f6 f7 f8; obtain ⟨y0, y1, y2, y3, y4, y5, y6, y7, y8⟩ := row9 HR2.out; obtain ⟨f0, f1, f2, f3, f4, f5, f6, f7, f8⟩ := frz9 HR2.out; unfold P9.v))
        have HE := hid (FIN.out w2 p c HR2.out (HB0.out.trans (HB2.out.mono HB0.out.size)))
        obtain ⟨hbf, z0, z1, z2, z3, z4, z5, z6, z7, z8⟩ := HE.out
        refine bodyPost_ret (v := .tuple #[p.v, .int .i64 c]) ?_ rfl ⟨hbf, p, c, rfl, ?_⟩
        · clear y0 y1 y2 y3 y4 y5 y6 y7 y8
          unfold P9.v
          simp [results, Tryz.results16, go_sem, z0, z1, z2, z3, z4, z5, z6, z7, z8]
        · rw [← HPK.out]; exact .inr (.inr ⟨rfl, hok, HQ.out⟩)
end Go.Proofs.YthonbfojpbfmgaaGreatDoor

/- Fold tells what the plain answer tells. -/
set_option linter.unusedVariables false
set_option linter.unusedSimpArgs false
set_option linter.unnecessarySimpa false
set_option maxRecDepth 20000
namespace Go.Proofs.YthonbfojpbfmgaaGreatDoor
open Go.RowKit

theorem okPack_len {n : Nat} {xs : List Nat} (h : okPack 1 n xs = true) : xs.length = (n + 63) / 64 := by
  by_cases hc : xs.length = (n + 63) / 64
  · exact hc
  · rw [okPack1_false_len hc] at h; cases h
theorem okPack_bits {n : Nat} {xs : List Nat} (h : okPack 1 n xs = true) : ∀ r, bitOf xs r = true → r < n := by
  intro r hr
  by_cases hc : r < n
  · exact hc
  · rw [okPack1_false_bit (Nat.le_of_not_lt hc) hr] at h; cases h
theorem rfo_range (kind rows : Int) (xs sel : List Nat) (hb : ∀ x ∈ xs, x < 256) (hl : xs.length ≤ 16777216) (h : rfoCode kind rows xs sel = 0) : ∀ p ∈ rfoVals kind rows xs sel, -9223372036854775808 ≤ p.1 ∧ p.1 ≤ 9223372036854775807 := by
  unfold rfoCode at h
  split at h
  · rename_i hall
    rw [Bool.and_eq_true, Bool.and_eq_true] at hall
    obtain ⟨⟨h1, h2⟩, h3⟩ := hall
    obtain ⟨hr0, hr1⟩ := okPack_rg h3
    obtain ⟨n, rfl⟩ := Int.eq_ofNat_of_zero_le hr0
    have hn : n ≤ 65536 := by omega
    have hsl := okPack_len h3
    have hsr := okPack_bits h3
    have hk : kind = 1 ∨ kind = 2 := by unfold isKind at h1; exact of_decide_eq_true h1
    have hg : (isKind kind && isRows n) = true := by rw [h1, h2]; rfl
    have hrc : refCode kind n xs = if rOk kind.toNat n xs = true then 0 else 1 := by unfold refCode; rw [if_pos hg]; rfl
    rw [hrc] at h
    have hok : rOk kind.toNat n xs = true := by
      by_cases hc : rOk kind.toNat n xs = true
      · exact hc
      · rw [if_neg hc] at h; cases h
    intro p hp
    rcases hk with rfl | rfl
    · have hlk : lkOk_I n xs = true := by rw [(meet_I n xs hn).1]; exact hok
      have hc := chosenV_I hb hl hn hlk hsr hsl
      have hm := List.mem_map_of_mem (f := pcC) hp
      rw [hc] at hm
      obtain ⟨j, hj, he⟩ := List.mem_map.1 hm
      have hT := tlD_I n xs sel hb hl hn hlk hsr
      have hv := vlV_I (base := lkBase_I n xs) (listV_I n xs) (hT.jj j hj).2
      have : (pcC p).i = (vC_I (vl_I (headOf n xs).codec (headOf n xs).wd (lkOut_I n xs).list (lkOut_I n xs).ends (lkBase_I n xs) (lkOut_I n xs).lanes j)).i := by rw [he]
      show -9223372036854775808 ≤ (pcC p).i ∧ (pcC p).i ≤ 9223372036854775807
      rw [this]
      exact hv
    · have hlk : lkOk_S n xs = true := by rw [(meet_S n xs hn).1]; exact hok
      have hc := chosenV_S hb hl hn hlk hsr hsl
      have hm := List.mem_map_of_mem (f := pcC) hp
      rw [hc] at hm
      obtain ⟨j, hj, he⟩ := List.mem_map.1 hm
      have : (pcC p).i = 0 := by rw [← he]; rfl
      show -9223372036854775808 ≤ (pcC p).i ∧ (pcC p).i ≤ 9223372036854775807
      rw [this]
      decide
  · cases h
def QF_I (n : Nat) (xs sel : List Nat) (p : P9) (c : Int) : Prop := (lkOk_I n xs = false ∧ p = nilP ∧ c = 1) ∨ (lkOk_I n xs = true ∧ p = foldP_I n xs sel ∧ c = 0)
def QF_S (n : Nat) (xs sel : List Nat) (p : P9) (c : Int) : Prop := (lkOk_S n xs = false ∧ p = nilP ∧ c = 1) ∨ (lkOk_S n xs = true ∧ p = foldP_S n xs sel ∧ c = 0)
set_option maxHeartbeats 2000000 in
theorem Fold_any (kind rows : Int) (v sv : Value) (xs sel : List Nat) (w : World) (hT : Tab w) (hv : Rd w v xs.length 1 (u8s xs)) (hb : ∀ x ∈ xs, x < 256) (hl : xs.length ≤ 16777216) (hs : Rd w sv sel.length 1 (u64s sel)) (hsv : ∀ x ∈ sel, x < 18446744073709551616) (hsl : sel.length ≤ maxLen) :
    Calls Tryz.prog 16 #[.int .i64 kind, .int .i64 rows, v, sv] w fun e w' => e = .returned (.tuple #[(rfoPart kind rows xs sel).v, .int .i64 (rfoCode kind rows xs sel)]) ∧ Below w.heap.size w w' := by
  refine (Fold_core w v sv xs sel kind rows (QF_I rows.toNat xs sel) (QF_S rows.toNat xs sel) hv hs hsv hsl ?_ ?_).mono ?_
  · intro hk hok w2 hb2
    obtain ⟨hr0, hr1⟩ := okPack_rg hok
    obtain ⟨n, rfl⟩ := Int.eq_ofNat_of_zero_le hr0
    have hn : n ≤ 65536 := by omega
    rw [Int.toNat_natCast]
    refine (fold_I w2 v sv xs sel n (hT.mono hb2 hT.lt) (hv.mono hb2) hb hl hn (hs.mono hb2) hsv (okPack_len hok) (okPack_bits hok) (foD_I n xs sel hb hl hn (okPack_bits hok) (okPack_len hok))).mono ?_
    rintro e w3 ⟨hb3, ⟨h0, rfl⟩ | ⟨h0, rfl⟩⟩
    · exact ⟨hb3, _, _, rfl, .inl ⟨h0, rfl, rfl⟩⟩
    · exact ⟨hb3, _, _, rfl, .inr ⟨h0, rfl, rfl⟩⟩
  · intro hk hok w2 hb2
    obtain ⟨hr0, hr1⟩ := okPack_rg hok
    obtain ⟨n, rfl⟩ := Int.eq_ofNat_of_zero_le hr0
    have hn : n ≤ 65536 := by omega
    rw [Int.toNat_natCast]
    refine (fold_S w2 v sv xs sel n (hT.mono hb2 hT.lt) (hv.mono hb2) hb hl hn (hs.mono hb2) hsv (okPack_len hok) (okPack_bits hok) (foD_S n xs sel hb hl hn (okPack_bits hok) (okPack_len hok))).mono ?_
    rintro e w3 ⟨hb3, ⟨h0, rfl⟩ | ⟨h0, rfl⟩⟩
    · exact ⟨hb3, _, _, rfl, .inl ⟨h0, rfl, rfl⟩⟩
    · exact ⟨hb3, _, _, rfl, .inr ⟨h0, rfl, rfl⟩⟩
  · rintro e w' ⟨hb', p, c, rfl, hq⟩
    refine ⟨?_, hb'⟩
    suffices h : p = rfoPart kind rows xs sel ∧ c = rfoCode kind rows xs sel by rw [h.1, h.2]
    rcases hq with ⟨h1, rfl, rfl⟩ | ⟨rfl, hok, hq⟩ | ⟨rfl, hok, hq⟩
    · have e1 : rfoCode kind rows xs sel = 5 := by
        unfold rfoCode
        rw [if_neg (by
          intro h
          simp only [Bool.and_eq_true] at h
          rw [h.1.1, h.2] at h1; cases h1)]
      refine ⟨?_, e1.symm⟩
      unfold rfoPart
      rw [e1, if_neg (by decide)]
    · obtain ⟨hr0, hr1⟩ := okPack_rg hok
      obtain ⟨n, rfl⟩ := Int.eq_ofNat_of_zero_le hr0
      have hn : n ≤ 65536 := by omega
      rw [Int.toNat_natCast] at hq
      have hk : isKind 1 = true := by decide
      have hrw : isRows n = true := by unfold isRows; exact decide_eq_true (by omega)
      have hg : (isKind 1 && isRows n) = true := by rw [hk, hrw]; rfl
      have hrc : refCode 1 n xs = if rOk 1 n xs = true then 0 else 1 := by unfold refCode; rw [if_pos hg]; rfl
      have e1 : rfoCode 1 n xs sel = if rOk 1 n xs = true then 0 else 1 := by unfold rfoCode; rw [hk, hrw, hok, ← hrc]; rfl
      have hm := (meet_I n xs hn).1
      rcases hq with ⟨h1, rfl, rfl⟩ | ⟨h1, rfl, rfl⟩
      · rw [hm] at h1
        rw [h1] at e1
        refine ⟨?_, e1.symm⟩
        unfold rfoPart
        rw [e1]; rfl
      · have h2 := h1
        rw [hm] at h2
        rw [h2] at e1
        refine ⟨?_, e1.symm⟩
        unfold rfoPart
        rw [e1, foldEq_I n xs sel hb hl hn (okPack_bits hok) (okPack_len hok) h1]; rfl
    · obtain ⟨hr0, hr1⟩ := okPack_rg hok
      obtain ⟨n, rfl⟩ := Int.eq_ofNat_of_zero_le hr0
      have hn : n ≤ 65536 := by omega
      rw [Int.toNat_natCast] at hq
      have hk : isKind 2 = true := by decide
      have hrw : isRows n = true := by unfold isRows; exact decide_eq_true (by omega)
      have hg : (isKind 2 && isRows n) = true := by rw [hk, hrw]; rfl
      have hrc : refCode 2 n xs = if rOk 2 n xs = true then 0 else 1 := by unfold refCode; rw [if_pos hg]; rfl
      have e1 : rfoCode 2 n xs sel = if rOk 2 n xs = true then 0 else 1 := by unfold rfoCode; rw [hk, hrw, hok, ← hrc]; rfl
      have hm := (meet_S n xs hn).1
      rcases hq with ⟨h1, rfl, rfl⟩ | ⟨h1, rfl, rfl⟩
      · rw [hm] at h1
        rw [h1] at e1
        refine ⟨?_, e1.symm⟩
        unfold rfoPart
        rw [e1]; rfl
      · have h2 := h1
        rw [hm] at h2
        rw [h2] at e1
        refine ⟨?_, e1.symm⟩
        unfold rfoPart
        rw [e1, foldEq_S n xs sel hb hl hn (okPack_bits hok) (okPack_len hok) h1]; rfl
end Go.Proofs.YthonbfojpbfmgaaGreatDoor

/- The laws' own helpers over cells: layCells, sameCells. -/
set_option linter.unusedVariables false
set_option linter.unusedSimpArgs false
set_option linter.unnecessarySimpa false
set_option maxRecDepth 20000
namespace Go.Proofs.YthonbfojpbfmgaaGreatDoor
open Go.RowKit

theorem three (cs : List Value) (h : 3 ≤ cs.length) : ∃ x y z r, cs = x :: y :: z :: r := by
  match cs, h with
  | x :: y :: z :: r, _ => exact ⟨x, y, z, r, rfl⟩
end Go.Proofs.YthonbfojpbfmgaaGreatDoor

/- LawFold's walk. -/
set_option linter.unusedVariables false
set_option linter.unusedSimpArgs false
set_option linter.unnecessarySimpa false
set_option maxRecDepth 200000
namespace Go.Proofs.YthonbfojpbfmgaaGreatDoor
open Go.RowKit

theorem rowB3_lay {w : World} {g m : Nat} {xs : List Nat} (h : Row w g 5 (u8s (xs ++ tailB m))) (hl : xs.length + m ≤ maxLen) :
    Rd w (.slice (some ⟨g, 0, none⟩) (xs.length + m) (xs.length + m)) (xs ++ tailB m).length 1 (u8s (xs ++ tailB m)) := by
  have e : (xs ++ tailB m).length = xs.length + m := by simp [tailB_length]
  rw [e]
  exact h.rd' (by rw [u8s_length, e]) hl
theorem rowB3_part {w : World} {g m : Nat} {xs : List Nat} (h : Row w g 5 (u8s (xs ++ tailB m))) (hl : xs.length + m ≤ maxLen) :
    Rd w (.slice (some ⟨g, 0, none⟩) xs.length (xs.length + m)) xs.length 1 (u8s xs) := by
  have := h.rd 0 xs.length (xs.length + m) (by simp [u8s]) (by omega) hl
  rw [List.drop_zero, u8s_append, ← u8s_length xs, List.take_left] at this
  rwa [u8s_length] at this
theorem rowW3_lay {w : World} {g m : Nat} {xs : List Nat} (h : Row w g 40 (u64s (xs ++ tailW m))) (hl : xs.length + m ≤ maxLen) :
    Rd w (.slice (some ⟨g, 0, none⟩) (xs.length + m) (xs.length + m)) (xs ++ tailW m).length 1 (u64s (xs ++ tailW m)) := by
  have e : (xs ++ tailW m).length = xs.length + m := by simp [tailW]
  rw [e]
  exact h.rd' (by simp [u64s, tailW]) hl
theorem rowW3_part {w : World} {g m : Nat} {xs : List Nat} (h : Row w g 40 (u64s (xs ++ tailW m))) (hl : xs.length + m ≤ maxLen) :
    Rd w (.slice (some ⟨g, 0, none⟩) xs.length (xs.length + m)) xs.length 1 (u64s xs) := by
  have := h.rd 0 xs.length (xs.length + m) (by simp [u64s]) (by omega) hl
  rw [List.drop_zero, u64s_append, ← u64s_length xs, List.take_left] at this
  rwa [u64s_length] at this
theorem rfoPart_bd (kind rows : Int) (xs sel : List Nat) (hr : rfoCode kind rows xs sel = 0 → ∀ p ∈ rfoVals kind rows xs sel, -9223372036854775808 ≤ p.1 ∧ p.1 ≤ 9223372036854775807) (hn : rfoCode kind rows xs sel = 0 → rows ≤ 65536) :
    (rfoPart kind rows xs sel).lo < 18446744073709551616 ∧ -9223372036854775808 ≤ (rfoPart kind rows xs sel).hi ∧ (rfoPart kind rows xs sel).hi < 9223372036854775808 := by
  unfold rfoPart
  by_cases h : rfoCode kind rows xs sel = 0
  · rw [if_pos h]
    refine ⟨(refP_part _).lo, ?_⟩
    have hb := halves_bd _ (hr h)
    have hl : (rfoVals kind rows xs sel).length ≤ rows.toNat := selV_len _ _ _ _ _
    have := hn h
    unfold refP
    split
    · unfold nilP; simp only; omega
    · simp only; omega
  · rw [if_neg h]
    unfold nilP; simp only; omega
set_option maxHeartbeats 16000000 in
theorem lawFold_walk (v2 sv : Value) (xs sel : List Nat) (kind rows r : Int) (w : World) (ht : Tab w) (hv : Rd w v2 xs.length 1 (u8s xs)) (hs : Rd w sv sel.length 1 (u64s sel)) (hb : ∀ x ∈ xs, x < 256) (hl : xs.length ≤ 16777216) (hsv : ∀ x ∈ sel, x < 18446744073709551616) (hsl : sel.length ≤ 16777216) :
    Calls Tryz.prog 4 #[.int .i64 kind, .int .i64 rows, v2, sv, .int .i64 r] w fun e w' => e = .returned (.bool true) ∧ Below w.heap.size w w' := by
  have hm := clipN_le r
  obtain ⟨m, hmr⟩ : ∃ m, clipN r = m := ⟨_, rfl⟩
  rw [hmr] at hm
  have HLB := hid (fun (w2 : World) (h : Below w.heap.size w w2) => layBytes_any v2 xs r w2 (hv.mono h) (by omega))
  have HLW := hid (fun (w2 : World) (h : Below w.heap.size w w2) => layWords_any sv sel r w2 (hs.mono h) (by omega))
  rw [hmr] at HLB HLW
  have HFO := hid (fun (w2 : World) (v a : Value) (h : Below w.heap.size w w2) (h1 : Rd w2 v xs.length 1 (u8s xs)) (h2 : Rd w2 a sel.length 1 (u64s sel)) => Fold_any kind rows v a xs sel w2 (ht.mono h ht.lt) h1 hb hl h2 hsv (by unfold maxLen; omega))
  have HFR := hid (fun (w2 : World) (h : Below w.heap.size w w2) => refFold_any kind rows v2 sv xs sel w2 (hv.mono h) hb hl (hs.mono h) hsv (by unfold maxLen; omega) (rfo_range kind rows xs sel hb hl))
  have hbd := rfoPart_bd kind rows xs sel (rfo_range kind rows xs sel hb hl) (fun h => by
    unfold rfoCode at h
    split at h
    · rename_i hall
      rw [Bool.and_eq_true] at hall
      exact (okPack_rg hall.2).2
    · cases h)
  generalize rfoPart kind rows xs sel = RP at *
  generalize rfoCode kind rows xs sel = code at *
  have HT1 := hid (fun w2 : World => Total_any RP w2 hbd.1 hbd.2)
  have HRT1 := hid (fun w2 : World => refTotal_any RP w2 hbd.1 hbd.2)
  have HSB := hid (fun (g g' : Nat) (w2 : World) (h1 : Row w2 g 5 (u8s (xs ++ tailB m))) (h2 : Row w2 g' 5 (u8s (xs ++ tailB m))) => sameBytes_same _ _ (xs ++ tailB m) w2 (rowB3_lay h1 (by unfold maxLen; omega)) (rowB3_lay h2 (by unfold maxLen; omega)))
  have HSW := hid (fun (g g' : Nat) (w2 : World) (h1 : Row w2 g 40 (u64s (sel ++ tailW m))) (h2 : Row w2 g' 40 (u64s (sel ++ tailW m))) => sameWords_same _ _ (sel ++ tailW m) w2 (rowW3_lay h1 (by unfold maxLen; omega)) (rowW3_lay h2 (by unfold maxLen; omega)) (by simp [tailW]; unfold maxLen; omega))
  have HPB := hid (fun (g : Nat) (w2 : World) (h : Row w2 g 5 (u8s (xs ++ tailB m))) => rowB3_part h (by unfold maxLen; omega))
  have HPW := hid (fun (g : Nat) (w2 : World) (h : Row w2 g 40 (u64s (sel ++ tailW m))) => rowW3_part h (by unfold maxLen; omega))
  obtain ⟨A0, c0, rfl, _, _, _⟩ := hv.form
  obtain ⟨A1, ca, rfl, _, _, _⟩ := hs.form
  clear hv hs hb hsv ht hbd hmr
  obtain ⟨xn, hxn⟩ : ∃ xn, xs.length = xn := ⟨_, rfl⟩
  obtain ⟨an, han⟩ : ∃ an, sel.length = an := ⟨_, rfl⟩
  simp only [hxn, han] at HLB HLW HFO HFR HSB HSW HPB HPW hl hsl ⊢
  clear hxn han
  generalize u8s (xs ++ tailB m) = XB at *
  generalize u64s (sel ++ tailW m) = XW at *
  generalize totC RP = tm at *
  generalize totE RP = em at *
  obtain ⟨tmn, tmi, tms⟩ := tm
  obtain ⟨mct, mhi, mlo, ⟨mmnn, mmni, mmns⟩, ⟨mmxn, mmxi, mmxs⟩⟩ := RP
  unfold P9.v at HFO HFR HT1 HRT1
  unfold C3.v at HT1 HRT1
  simp only at HFO HFR HT1 HRT1
  go_enter Tryz.func4, Tryz.ntmps4
  go_upto_region 2 with (go_at_call 7; refine (HLB.out _ (brefl w)).mono ?_; rintro e w1 ⟨rfl, hr1, hb1, hz9⟩; have HR1 := hid hr1; have HB1 := hid hb1; clear hr1 hb1 hz9)
  go_upto_region 3 with (go_at_call 15; refine (HLW.out _ HB1.out).mono ?_; rintro e w2 ⟨rfl, hr2, hb2, hz9⟩; have HR2 := hid hr2; have HB2 := hid (HB1.out.trans (hb2.mono HB1.out.size)); have HR12 := hid (HR1.out.mono hb2); clear hr2 hb2 hz9)
  generalize hG : w.heap.size = g1 at *
  have HG := hid hG
  clear hG
  generalize w1.heap.size = g2 at *
  clear HR1 HB1
  have s1 : (xn : Int) ≤ (xn : Int) + (m : Int) := by omega
  have s2 : (an : Int) ≤ (an : Int) + (m : Int) := by omega
  have s3 : xn ≤ xn + m := by omega
  have s4 : an ≤ an + m := by omega
  have hsz2 : g1 ≤ w2.heap.size := Nat.le_of_lt HR12.out.lt
  go_cut [13, 14] from 25 to 38 (fun s13 s14 wc => s14 = .int .i64 code ∧ ∃ gp : Nat, s13 = .pointer (some ⟨gp, 0, none⟩) ∧ w2.heap.size ≤ gp ∧ Hid (Row wc gp 44 [.int .i64 mct, .int .i64 mhi, .int .u64 mlo, .bool mmnn, .int .i64 mmni, .string mmns, .bool mmxn, .int .i64 mmxi, .string mmxs]) ∧ Hid (Below w2.heap.size w2 wc))
  case first =>
    have HFX := hid (fun (w4 : World) (h : Below w2.heap.size w2 w4) => HFO.out w4 _ _ (HB2.out.trans (h.mono hsz2)) (HPB.out g1 w4 (HR12.out.mono h)) (HPW.out g2 w4 (HR2.out.mono h)))
    go_region_held3 (fun w' => True) (trivial)
      (first
        | (go_at_call 16; refine (HFX.out _ (bdrew (brefl w2) 1)).mono ?_; rintro e w4 ⟨rfl, hb4⟩; have HB4 : Hid (Below w2.heap.size w2 w4) := hid (bthen (bdrew (brefl w2) 1) hb4); clear hb4)
        | (go_at_call 16; refine (HFX.out _ (bdrew ((brefl w2).alloc (Nat.le_refl _) (.cells #[.int .i64 0, .int .i64 0, .int .u64 0, .bool false, .int .i64 0, .string ⟨#[]⟩, .bool false, .int .i64 0, .string ⟨#[]⟩] 44)) 1)).mono ?_; rintro e w4 ⟨rfl, hb4⟩; have HB4 : Hid (Below w2.heap.size w2 w4) := hid (bthen (bdrew ((brefl w2).alloc (Nat.le_refl _) (.cells #[.int .i64 0, .int .i64 0, .int .u64 0, .bool false, .int .i64 0, .string ⟨#[]⟩, .bool false, .int .i64 0, .string ⟨#[]⟩] 44)) 1) hb4); have HRY4 : Hid (Row w4 w2.heap.size 44 [.int .i64 0, .int .i64 0, .int .u64 0, .bool false, .int .i64 0, .string ⟨#[]⟩, .bool false, .int .i64 0, .string ⟨#[]⟩]) := hid (Row.mono (show Row (w2.alloc (.cells #[.int .i64 0, .int .i64 0, .int .u64 0, .bool false, .int .i64 0, .string ⟨#[]⟩, .bool false, .int .i64 0, .string ⟨#[]⟩] 44)).drew w2.heap.size 44 [.int .i64 0, .int .i64 0, .int .u64 0, .bool false, .int .i64 0, .string ⟨#[]⟩, .bool false, .int .i64 0, .string ⟨#[]⟩] by show Row (w2.alloc (.cells #[.int .i64 0, .int .i64 0, .int .u64 0, .bool false, .int .i64 0, .string ⟨#[]⟩, .bool false, .int .i64 0, .string ⟨#[]⟩] 44)) w2.heap.size 44 [.int .i64 0, .int .i64 0, .int .u64 0, .bool false, .int .i64 0, .string ⟨#[]⟩, .bool false, .int .i64 0, .string ⟨#[]⟩]; unfold Row; rw [heap_alloc_new]) hb4); obtain ⟨y0, y1, y2, y3, y4, y5, y6, y7, y8⟩ := row9 HRY4.out; obtain ⟨f0, f1, f2, f3, f4, f5, f6, f7, f8⟩ := frz9 HRY4.out; clear hb4))
    · go_wp2_with fail
      go_meet
      exact ⟨rfl, w4.heap.size, rfl, HB4.out.size, hid (by unfold Row; rw [heap_alloc_new]), hid (HB4.out.alloc HB4.out.size _)⟩
    · go_wp2_with fail
      go_meet
      exact ⟨rfl, w2.heap.size, rfl, Nat.le_refl _, hid (set9_row HRY4.out (.int .i64 mct) (.int .i64 mhi) (.int .u64 mlo) (.bool mmnn) (.int .i64 mmni) (.string mmns) (.bool mmxn) (.int .i64 mmxi) (.string mmxs)), hid (set9_below HB4.out w2.heap.size (Nat.le_refl _) (.int .i64 mct) (.int .i64 mhi) (.int .u64 mlo) (.bool mmnn) (.int .i64 mmni) (.string mmns) (.bool mmxn) (.int .i64 mmxi) (.string mmxs))⟩
  case rest =>
    obtain ⟨rfl, gp, rfl, hgp, HRP, HB4⟩ := hcut
    have HR1c := hid (HR12.out.mono HB4.out)
    have HR2c := hid (HR2.out.mono HB4.out)
    have HBc := hid (HB2.out.trans (HB4.out.mono hsz2))
    clear HR12 HR2 HFO HPB HPW HB4
    have hg1c : g1 ≤ wc.heap.size := Nat.le_of_lt HR1c.out.lt
    have HFRc := hid (HFR.out wc HBc.out)
    go_upto_region 5 with (go_at_call 17; refine HFRc.out.mono ?_; rintro e w5 ⟨rfl, hb5⟩; have HB5 := hid hb5; clear hb5)
    have HA6 := hid ((brefl w5).alloc (Nat.le_refl _) (.cells #[.int .i64 mct, .int .i64 mhi, .int .u64 mlo, .bool mmnn, .int .i64 mmni, .string mmns, .bool mmxn, .int .i64 mmxi, .string mmxs] 44))
    have HRD6 : Hid (Row (w5.alloc (.cells #[.int .i64 mct, .int .i64 mhi, .int .u64 mlo, .bool mmnn, .int .i64 mmni, .string mmns, .bool mmxn, .int .i64 mmxi, .string mmxs] 44)) w5.heap.size 44 [.int .i64 mct, .int .i64 mhi, .int .u64 mlo, .bool mmnn, .int .i64 mmni, .string mmns, .bool mmxn, .int .i64 mmxi, .string mmxs]) := hid (by unfold Row; rw [heap_alloc_new])
    have HB6 := hid (bthen HB5.out HA6.out)
    have HRP6 := hid (HRP.out.mono HB6.out)
    have HR16 := hid (HR1c.out.mono HB6.out)
    have HR26 := hid (HR2c.out.mono HB6.out)
    have HBW6 := hid (HBc.out.trans (HB6.out.mono hg1c))
    clear HFR HFRc HRP HR1c HR2c HB5 HA6
    generalize w5.alloc (.cells #[.int .i64 mct, .int .i64 mhi, .int .u64 mlo, .bool mmnn, .int .i64 mmni, .string mmns, .bool mmxn, .int .i64 mmxi, .string mmxs] 44) = w6 at *
    generalize w5.heap.size = gd at *
    clear HB6 HBc
    have hg16 : g1 ≤ w6.heap.size := Nat.le_of_lt HR16.out.lt
    obtain ⟨p0, p1, p2, p3, p4, p5, p6, p7, p8⟩ := row9 HRP6.out
    obtain ⟨d0, d1, d2, d3, d4, d5, d6, d7, d8⟩ := row9 HRD6.out
    have hcc : (code != code) = false := by simp
    go_upto_region 7 with (first
      | (go_at_call 7; refine (HLB.out _ HBW6.out).mono ?_; rintro e w8 ⟨rfl, hr8, hb8, hz9⟩; have HR8 := hid hr8; have HB8 := hid hb8; clear hr8 hb8 hz9)
      | (go_at_call 12; refine (HSB.out g1 _ w8 (HR16.out.mono HB8.out) HR8.out).mono ?_; rintro e w9 ⟨rfl, hw9⟩; replace hw9 := hw9.symm; subst hw9)
      | (go_at_call 15; refine (HLW.out _ (HBW6.out.trans (HB8.out.mono hg16))).mono ?_; rintro e w10 ⟨rfl, hr10, hb10, hz9⟩; have HR10 := hid hr10; have HB10 := hid (bthen HB8.out hb10); clear hr10 hb10 hz9)
      | (go_at_call 18; refine (HSW.out g2 _ w10 (HR26.out.mono HB10.out) HR10.out).mono ?_; rintro e w11 ⟨rfl, nd11, hw11⟩; have HB11 : Hid (Below w6.heap.size w6 w11) := (hid (by rw [hw11]; exact bdrew HB10.out nd11)); clear hw11))
    have HRP11 := hid (HRP6.out.mono HB11.out)
    have HRD11 := hid (HRD6.out.mono HB11.out)
    have HBW11 := hid (HBW6.out.trans (HB11.out.mono hg16))
    have hg11 : g1 ≤ w11.heap.size := Nat.le_trans hg16 HB11.out.size
    clear p0 p1 p2 p3 p4 p5 p6 p7 p8 d0 d1 d2 d3 d4 d5 d6 d7 d8 HRP6 HRD6 HR16 HR26 HBW6 HR8 HR10 HB8 HB10 HB11 HLB HLW HSB HSW
    obtain ⟨p0, p1, p2, p3, p4, p5, p6, p7, p8⟩ := row9 HRP11.out
    go_upto_region 8 with (go_at_call 19; refine (HT1.out _).mono ?_; rintro e w12 ⟨rfl, hb12⟩; have HB12 := hid hb12; clear hb12)
    have HA13 := hid ((brefl w12).alloc (Nat.le_refl _) (.cells #[.bool tmn, .int .i64 tmi, .string tms] 42))
    have HRC13 : Hid (Row (w12.alloc (.cells #[.bool tmn, .int .i64 tmi, .string tms] 42)) w12.heap.size 42 [.bool tmn, .int .i64 tmi, .string tms]) := hid (by unfold Row; rw [heap_alloc_new])
    have HB13 := hid (bthen HB12.out HA13.out)
    have HRD13 := hid (HRD11.out.mono HB13.out)
    have HBW13 := hid (HBW11.out.trans (HB13.out.mono hg11))
    have hg13 : g1 ≤ (w12.alloc (.cells #[.bool tmn, .int .i64 tmi, .string tms] 42)).heap.size := Nat.le_trans hg11 HB13.out.size
    clear p0 p1 p2 p3 p4 p5 p6 p7 p8 HRP11 HRD11 HB12 HA13 HT1
    generalize w12.alloc (.cells #[.bool tmn, .int .i64 tmi, .string tms] 42) = w13 at *
    generalize w12.heap.size = gt at *
    obtain ⟨d0, d1, d2, d3, d4, d5, d6, d7, d8⟩ := row9 HRD13.out
    go_upto_region 9 with (go_at_call 20; refine (HRT1.out _).mono ?_; rintro e w14 ⟨rfl, hb14⟩; have HB14 := hid hb14; clear hb14)
    have HA15 := hid ((brefl w14).alloc (Nat.le_refl _) (.cells #[.bool tmn, .int .i64 tmi, .string tms] 42))
    have HRC15 : Hid (Row (w14.alloc (.cells #[.bool tmn, .int .i64 tmi, .string tms] 42)) w14.heap.size 42 [.bool tmn, .int .i64 tmi, .string tms]) := hid (by unfold Row; rw [heap_alloc_new])
    have HB15 := hid (bthen HB14.out HA15.out)
    have HRE15 := hid (HRC13.out.mono HB15.out)
    have HBW15 := hid (HBW13.out.trans (HB15.out.mono hg13))
    clear d0 d1 d2 d3 d4 d5 d6 d7 d8 HRD13 HB14 HA15 HRC13
    generalize w14.alloc (.cells #[.bool tmn, .int .i64 tmi, .string tms] 42) = w15 at *
    generalize w14.heap.size = gu at *
    obtain ⟨k0, k1, k2⟩ := cell3 HRE15.out
    obtain ⟨m0, m1, m2⟩ := cell3 HRC15.out
    have hee : (em == em) = true := by simp
    go_wp2_with fail
    go_ret
    exact ⟨by simp, by rw [HG.out]; exact HBW15.out⟩
end Go.Proofs.YthonbfojpbfmgaaGreatDoor

/- From the row's hypotheses to lists of words. -/
set_option maxRecDepth 512
set_option linter.unusedVariables false
set_option linter.unusedSimpArgs false
set_option linter.unnecessarySimpa false
namespace Go.Proofs.YthonbfojpbfmgaaGreatDoor
open Go.RowKit

theorem wf_u64_nat {n : Int} (h : (Lit.int .u64 n).wf = true) : 0 ≤ n ∧ n < 18446744073709551616 := by
  simp [Lit.wf, IntKind.min, IntKind.max, IntKind.signed, IntKind.bits] at h; omega
theorem u64s_of (zs : List Int) (h : ∀ n ∈ zs, (Lit.int .u64 n).wf = true) : zs.map (Value.int .u64) = u64s (zs.map Int.toNat) ∧ ∀ x ∈ zs.map Int.toNat, x < 18446744073709551616 := by
  constructor
  · simp only [u64s, u64, List.map_map]
    apply List.map_congr_left
    intro n hn
    have := wf_u64_nat (h n hn)
    simp only [Function.comp]
    congr 1; omega
  · intro x hx
    obtain ⟨n, hn, rfl⟩ := List.mem_map.1 hx
    have := wf_u64_nat (h n hn); omega
/-- a slice of words that came in, as the walks want it -/
theorem open_words {H : Type} {enc : TypeId × Value → H} {P : Program} {w : World} {base : Nat} {held : Bool} {t e : TypeId} {a : Option Addr} {len cap : Nat} {x : DataW H × List MemPlace}
    (ht : P.underlying t = some (.slice e)) (he : P.underlying e = some (.int .u64)) (hc : P.cellsOf e = 1) (h : ∃ fuel, DataW.trod enc P w base (fun _ => true) held fuel t (Value.slice a len cap).cells.toList = some x) :
    ∃ xs : List Nat, Rd w (.slice a len cap) xs.length 1 (u64s xs) ∧ (∀ y ∈ xs, y < 18446744073709551616) ∧ (xs = [] ∨ ∃ elems sp, x.1 = .slice elems sp ∧ elems.length = xs.length) := by
  obtain ⟨zs, hl, hr, hw, hs⟩ := open_ints_rd ht he hc h
  obtain ⟨h1, h2⟩ := u64s_of zs hw
  refine ⟨zs.map Int.toNat, ?_, h2, ?_⟩
  · rw [h1] at hr; simpa using hr
  · simpa using hs
end Go.Proofs.YthonbfojpbfmgaaGreatDoor

/- From the row's hypotheses to lists of bytes. -/
set_option maxRecDepth 512
set_option linter.unusedVariables false
set_option linter.unusedSimpArgs false
set_option linter.unnecessarySimpa false
namespace Go.Proofs.YthonbfojpbfmgaaGreatDoor
open Go.RowKit

theorem wf_u8_nat {n : Int} (h : (Lit.int .u8 n).wf = true) : 0 ≤ n ∧ n < 256 := by
  simp [Lit.wf, IntKind.min, IntKind.max, IntKind.signed, IntKind.bits] at h; omega
theorem u8s_of (zs : List Int) (h : ∀ n ∈ zs, (Lit.int .u8 n).wf = true) : zs.map (Value.int .u8) = u8s (zs.map Int.toNat) ∧ ∀ x ∈ zs.map Int.toNat, x < 256 := by
  constructor
  · simp only [u8s, u8, List.map_map]
    apply List.map_congr_left
    intro n hn
    have := wf_u8_nat (h n hn)
    simp only [Function.comp]
    congr 1; omega
  · intro x hx
    obtain ⟨n, hn, rfl⟩ := List.mem_map.1 hx
    have := wf_u8_nat (h n hn); omega
/-- a slice of bytes that came in, as the walks want it -/
theorem open_bytes {H : Type} {enc : TypeId × Value → H} {P : Program} {w : World} {base : Nat} {held : Bool} {t e : TypeId} {a : Option Addr} {len cap : Nat} {x : DataW H × List MemPlace}
    (ht : P.underlying t = some (.slice e)) (he : P.underlying e = some (.int .u8)) (hc : P.cellsOf e = 1) (h : ∃ fuel, DataW.trod enc P w base (fun _ => true) held fuel t (Value.slice a len cap).cells.toList = some x) :
    ∃ xs : List Nat, Rd w (.slice a len cap) xs.length 1 (u8s xs) ∧ (∀ y ∈ xs, y < 256) ∧ (xs = [] ∨ ∃ elems sp, x.1 = .slice elems sp ∧ elems.length = xs.length) := by
  obtain ⟨zs, hl, hr, hw, hs⟩ := open_ints_rd ht he hc h
  obtain ⟨h1, h2⟩ := u8s_of zs hw
  refine ⟨zs.map Int.toNat, ?_, h2, ?_⟩
  · rw [h1] at hr; simpa using hr
  · simpa using hs
end Go.Proofs.YthonbfojpbfmgaaGreatDoor
