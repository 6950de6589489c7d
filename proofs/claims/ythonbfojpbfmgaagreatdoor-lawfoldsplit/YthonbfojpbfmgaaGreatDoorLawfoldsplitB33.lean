/- Package kernel: Fold, over the two kinds' folds. -/
import Derived.Test.YthonbfojpbfmgaaGreatDoorLawfoldsplitB27
import Derived.Test.YthonbfojpbfmgaaGreatDoorLawfoldsplitB3
import Derived.Test.YthonbfojpbfmgaaGreatDoorLawfoldsplitB5
import Derived.Test.YthonbfojpbfmgaaGreatDoorLawfoldsplitB30
import Derived.Test.YthonbfojpbfmgaaGreatDoorLawfoldsplitB32
import Derived.Test.YthonbfojpbfmgaaGreatDoorLawfoldsplitB18
import Derived.Test.YthonbfojpbfmgaaGreatDoorLawfoldsplitB13
import Derived.Test.YthonbfojpbfmgaaGreatDoorLawfoldsplitB22
import Derived.Test.YthonbfojpbfmgaaGreatDoorLawfoldsplitB23
import Derived.Test.YthonbfojpbfmgaaGreatDoorLawfoldsplitB17
import Derived.Test.YthonbfojpbfmgaaGreatDoorLawfoldsplitB19
set_option linter.unusedVariables false
set_option linter.unusedSimpArgs false
set_option linter.unnecessarySimpa false
set_option maxRecDepth 100000
namespace Go.Proofs.YthonbfojpbfmgaaGreatDoor
open Go.RowKit

theorem okPack_rg {n : Int} {xs : List Nat} (h : okPack 1 n xs = true) : 0 ≤ n ∧ n ≤ 65536 := by
  by_cases hc : 0 ≤ (1 : Int) ∧ (1 : Int) ≤ 64 ∧ 0 ≤ n ∧ n ≤ 65536
  · exact hc.2.2
  · rw [okPack_not xs hc] at h; cases h
/-- the fold of one kind: what it says of the Part and of the code -/
def FoldSays (Q : P9 → Int → Prop) (w : World) (e : Ending) (w' : World) : Prop := Below w.heap.size w w' ∧ ∃ p c, e = .returned (.tuple #[p.v, .int .i64 c]) ∧ Q p c
/-- what Fold says -/
def FoldK (kind rows : Int) (sel : List Nat) (QI QS : P9 → Int → Prop) (p : P9) (c : Int) : Prop :=
  ((isKind kind && okPack 1 rows sel) = false ∧ p = nilP ∧ c = 5) ∨ (kind = 1 ∧ okPack 1 rows sel = true ∧ QI p c) ∨ (kind = 2 ∧ okPack 1 rows sel = true ∧ QS p c)
set_option maxHeartbeats 8000000 in
theorem Fold_core (w : World) (v sv : Value) (xs sel : List Nat) (kind rows : Int) (QI QS : P9 → Int → Prop) (hv : Rd w v xs.length 1 (u8s xs)) (hs : Rd w sv sel.length 1 (u64s sel)) (hsv : ∀ x ∈ sel, x < 18446744073709551616) (hsl : sel.length ≤ maxLen)
    (hI : kind = 1 → okPack 1 rows sel = true → ∀ w2, Below w.heap.size w w2 → Calls Tryz.prog 38 #[.iface 68 (.agg #[]), .int .i64 rows, v, sv] w2 (FoldSays QI w2))
    (hS : kind = 2 → okPack 1 rows sel = true → ∀ w2, Below w.heap.size w w2 → Calls Tryz.prog 37 #[.iface 66 (.agg #[]), .int .i64 rows, v, sv] w2 (FoldSays QS w2)) :
    Calls Tryz.prog 16 #[.int .i64 kind, .int .i64 rows, v, sv] w (FoldSays (FoldK kind rows sel QI QS) w) := by
  obtain ⟨s, hsz⟩ : ∃ s, w.heap.size = s := ⟨_, rfl⟩
  have HIK := hid (fun (w2 : World) => IsKind_any kind w2)
  have HRA := hid (fun (w2 : World) (h : Below w.heap.size w w2) => Rank_any sv sel rows rows w2 (hs.mono h) hsv hsl)
  have HI := hid hI; have HS := hid hS
  obtain ⟨A0, c0, rfl, _, _, _⟩ := hv.form
  obtain ⟨As, cs, rfl, _, _, _⟩ := hs.form
  clear hv hs hI hS hsv hsl
  obtain ⟨sn, hsn⟩ : ∃ n, sel.length = n := ⟨_, rfl⟩
  obtain ⟨xn, hxn⟩ : ∃ n, xs.length = n := ⟨_, rfl⟩
  simp only [hsn, hxn] at HRA HI HS ⊢
  clear hsn hxn
  obtain ⟨PK, hPK⟩ : ∃ PK, FoldK kind rows sel QI QS = PK := ⟨_, rfl⟩
  have HPK := hid hPK
  rw [hPK]
  clear hPK
  have HB0 := hid ((brefl w).alloc (Nat.le_refl _) (.cells #[.int .i64 0, .int .i64 0, .int .u64 0, .bool false, .int .i64 0, .string ⟨#[]⟩, .bool false, .int .i64 0, .string ⟨#[]⟩] 44))
  have HR0 : Hid (Row (w.alloc (.cells #[.int .i64 0, .int .i64 0, .int .u64 0, .bool false, .int .i64 0, .string ⟨#[]⟩, .bool false, .int .i64 0, .string ⟨#[]⟩] 44)) s 44 [.int .i64 0, .int .i64 0, .int .u64 0, .bool false, .int .i64 0, .string ⟨#[]⟩, .bool false, .int .i64 0, .string ⟨#[]⟩]) := hid (by rw [← hsz]; unfold Row; rw [heap_alloc_new])
  -- the end: the Part p, the code c, in the result's cell
  have FIN := hid (fun (w1 : World) (p : P9) (c : Int) (hr : Row w1 s 44 [.int .i64 0, .int .i64 0, .int .u64 0, .bool false, .int .i64 0, .string ⟨#[]⟩, .bool false, .int .i64 0, .string ⟨#[]⟩]) (hb : Below w.heap.size w w1) =>
    (And.intro (set9_below hb s (by omega) (.int .i64 p.ct) (.int .i64 p.hi) (.int .u64 p.lo) (.bool p.mn.n) (.int .i64 p.mn.i) (.string p.mn.s) (.bool p.mx.n) (.int .i64 p.mx.i) (.string p.mx.s))
      (row9 (set9_row hr (.int .i64 p.ct) (.int .i64 p.hi) (.int .u64 p.lo) (.bool p.mn.n) (.int .i64 p.mn.i) (.string p.mn.s) (.bool p.mx.n) (.int .i64 p.mx.i) (.string p.mx.s)))))
  have FIN0 := hid (fun (w1 : World) (hr : Row w1 s 44 [.int .i64 0, .int .i64 0, .int .u64 0, .bool false, .int .i64 0, .string ⟨#[]⟩, .bool false, .int .i64 0, .string ⟨#[]⟩]) (hb : Below w.heap.size w w1) =>
    (And.intro (set9_below hb s (by omega) (.int .i64 0) (.int .i64 0) (.int .u64 0) (.bool false) (.int .i64 0) (.string ⟨#[]⟩) (.bool false) (.int .i64 0) (.string ⟨#[]⟩))
      (row9 (set9_row hr (.int .i64 0) (.int .i64 0) (.int .u64 0) (.bool false) (.int .i64 0) (.string ⟨#[]⟩) (.bool false) (.int .i64 0) (.string ⟨#[]⟩)))))
  unfold set9 at FIN FIN0
  obtain ⟨rk, hrk⟩ : ∃ rk, rankR rows rows sel = rk := ⟨_, rfl⟩
  go_enter Tryz.func16, Tryz.ntmps16
  go_upto_region 1 with fail
  generalize w.alloc (.cells #[.int .i64 0, .int .i64 0, .int .u64 0, .bool false, .int .i64 0, .string ⟨#[]⟩, .bool false, .int .i64 0, .string ⟨#[]⟩] 44) = w0 at *
  obtain ⟨y0, y1, y2, y3, y4, y5, y6, y7, y8⟩ := row9 HR0.out
  obtain ⟨f0, f1, f2, f3, f4, f5, f6, f7, f8⟩ := frz9 HR0.out
  have HRA0 := hid (HRA.out w0 HB0.out)
  rw [hrk] at HRA0
  obtain ⟨kk, hkk⟩ : ∃ b, isKind kind = b := ⟨_, rfl⟩
  rw [hkk] at HIK
  cases kk
  · have HE := hid (FIN0.out w0 HR0.out HB0.out)
    go_wp2_with (go_at_call 27; refine (HIK.out _).mono ?_; rintro e w1 ⟨rfl, hw⟩; replace hw := hw.symm; subst hw)
    obtain ⟨hbf, z0, z1, z2, z3, z4, z5, z6, z7, z8⟩ := HE.out
    refine bodyPost_ret (v := .tuple #[.agg #[.int .i64 0, .int .i64 0, .int .u64 0, .bool false, .int .i64 0, .string ⟨#[]⟩, .bool false, .int .i64 0, .string ⟨#[]⟩], .int .i64 5]) ?_ rfl ⟨hbf, nilP, 5, rfl, ?_⟩
    · clear y0 y1 y2 y3 y4 y5 y6 y7 y8
      simp [results, Tryz.results16, go_sem, z0, z1, z2, z3, z4, z5, z6, z7, z8]
    · rw [← HPK.out]; exact .inl ⟨by rw [hkk]; rfl, rfl, rfl⟩
  · by_cases hok : okPack 1 rows sel = true
    rotate_left
    · have hrk5 : rk = -1 := by rw [← hrk]; unfold rankR; rw [if_neg (fun h => hok h.1)]
      subst hrk5
      have hok2 : okPack 1 rows sel = false := by simpa using hok
      go_wp2_with (first
        | (go_at_call 27; refine (HIK.out _).mono ?_; rintro e w1 ⟨rfl, hw⟩; replace hw := hw.symm; subst hw)
        | (go_at_call 36; refine HRA0.out.mono ?_; rintro e w1 ⟨rfl, nd, rfl⟩))
      have HE := hid (FIN0.out (w0.drewN nd) HR0.out (bdrew HB0.out nd))
      obtain ⟨hbf, z0, z1, z2, z3, z4, z5, z6, z7, z8⟩ := HE.out
      refine bodyPost_ret (v := .tuple #[.agg #[.int .i64 0, .int .i64 0, .int .u64 0, .bool false, .int .i64 0, .string ⟨#[]⟩, .bool false, .int .i64 0, .string ⟨#[]⟩], .int .i64 5]) ?_ rfl ⟨hbf, nilP, 5, rfl, ?_⟩
      · clear y0 y1 y2 y3 y4 y5 y6 y7 y8
        simp [results, Tryz.results16, go_sem, z0, z1, z2, z3, z4, z5, z6, z7, z8]
      · rw [← HPK.out]; exact .inl ⟨by rw [hok2]; simp, rfl, rfl⟩
    · have hrk5 : 0 ≤ rk := by
        rw [← hrk]; unfold rankR; split <;> rename_i h
        · omega
        · exfalso; apply h
          refine ⟨hok, ?_, Int.le_refl _⟩
          exact (okPack_rg hok).1
      have hrn : ¬ rk < 0 := by omega
      have hk12 : kind = 1 ∨ kind = 2 := by unfold isKind at hkk; exact of_decide_eq_true hkk
      clear hrk hrk5
      rcases hk12 with rfl | rfl
      · have HIX := hid (HI.out rfl hok)
        clear HI HS
        go_wp2_with (first
          | (go_at_call 27; refine (HIK.out _).mono ?_; rintro e w1 ⟨rfl, hw⟩; replace hw := hw.symm; subst hw)
          | (go_at_call 36; refine HRA0.out.mono ?_; rintro e w1 ⟨rfl, nd, rfl⟩)
          | (go_at_call 38; refine (HIX.out _ (bdrew HB0.out nd)).mono ?_; rintro e w2 ⟨hb2, p, c, rfl, hq⟩; have HB2 : Hid (Below w0.heap.size w0 w2) := hid (bthen (bdrew (brefl w0) nd) hb2); have HQ := hid hq; have HR2 := hid (HR0.out.mono HB2.out); clear hb2 hq y0 y1 y2 y3 y4 y5 y6 y7 y8 f0 f1 f2 f3 f4 f5 f6 f7 f8; obtain ⟨y0, y1, y2, y3, y4, y5, y6, y7, y8⟩ := row9 HR2.out; obtain ⟨f0, f1, f2, f3, f4, f5, f6, f7, f8⟩ := frz9 HR2.out; unfold P9.v))
        have HE := hid (FIN.out w2 p c HR2.out (HB0.out.trans (HB2.out.mono HB0.out.size)))
        obtain ⟨hbf, z0, z1, z2, z3, z4, z5, z6, z7, z8⟩ := HE.out
        refine bodyPost_ret (v := .tuple #[p.v, .int .i64 c]) ?_ rfl ⟨hbf, p, c, rfl, ?_⟩
        · clear y0 y1 y2 y3 y4 y5 y6 y7 y8
          unfold P9.v
          simp [results, Tryz.results16, go_sem, z0, z1, z2, z3, z4, z5, z6, z7, z8]
        · rw [← HPK.out]; exact .inr (.inl ⟨rfl, hok, HQ.out⟩)
      · have HIX := hid (HS.out rfl hok)
        clear HI HS
        go_wp2_with (first
          | (go_at_call 27; refine (HIK.out _).mono ?_; rintro e w1 ⟨rfl, hw⟩; replace hw := hw.symm; subst hw)
          | (go_at_call 36; refine HRA0.out.mono ?_; rintro e w1 ⟨rfl, nd, rfl⟩)
          | (go_at_call 37; refine (HIX.out _ (bdrew HB0.out nd)).mono ?_; rintro e w2 ⟨hb2, p, c, rfl, hq⟩; have HB2 : Hid (Below w0.heap.size w0 w2) := hid (bthen (bdrew (brefl w0) nd) hb2); have HQ := hid hq; have HR2 := hid (HR0.out.mono HB2.out); clear hb2 hq y0 y1 y2 y3 y4 y5 y6 y7 y8 f0 f1 f2 f3 f4 f5 f6 f7 f8; obtain ⟨y0, y1, y2, y3, y4, y5, y6, y7, y8⟩ := row9 HR2.out; obtain ⟨f0, f1, f2, f3, f4, f5, f6, f7, f8⟩ := frz9 HR2.out; unfold P9.v))
        have HE := hid (FIN.out w2 p c HR2.out (HB0.out.trans (HB2.out.mono HB0.out.size)))
        obtain ⟨hbf, z0, z1, z2, z3, z4, z5, z6, z7, z8⟩ := HE.out
        refine bodyPost_ret (v := .tuple #[p.v, .int .i64 c]) ?_ rfl ⟨hbf, p, c, rfl, ?_⟩
        · clear y0 y1 y2 y3 y4 y5 y6 y7 y8
          unfold P9.v
          simp [results, Tryz.results16, go_sem, z0, z1, z2, z3, z4, z5, z6, z7, z8]
        · rw [← HPK.out]; exact .inr (.inr ⟨rfl, hok, HQ.out⟩)
end Go.Proofs.YthonbfojpbfmgaaGreatDoor

/- Fold tells what the plain answer tells. -/
set_option linter.unusedVariables false
set_option linter.unusedSimpArgs false
set_option linter.unnecessarySimpa false
set_option maxRecDepth 20000
namespace Go.Proofs.YthonbfojpbfmgaaGreatDoor
open Go.RowKit

theorem okPack_len {n : Nat} {xs : List Nat} (h : okPack 1 n xs = true) : xs.length = (n + 63) / 64 := by
  by_cases hc : xs.length = (n + 63) / 64
  · exact hc
  · rw [okPack1_false_len hc] at h; cases h
theorem okPack_bits {n : Nat} {xs : List Nat} (h : okPack 1 n xs = true) : ∀ r, bitOf xs r = true → r < n := by
  intro r hr
  by_cases hc : r < n
  · exact hc
  · rw [okPack1_false_bit (Nat.le_of_not_lt hc) hr] at h; cases h
def QF_I (n : Nat) (xs sel : List Nat) (p : P9) (c : Int) : Prop := (lkOk_I n xs = false ∧ p = nilP ∧ c = 1) ∨ (lkOk_I n xs = true ∧ p = foldP_I n xs sel ∧ c = 0)
def QF_S (n : Nat) (xs sel : List Nat) (p : P9) (c : Int) : Prop := (lkOk_S n xs = false ∧ p = nilP ∧ c = 1) ∨ (lkOk_S n xs = true ∧ p = foldP_S n xs sel ∧ c = 0)
set_option maxHeartbeats 2000000 in
theorem Fold_any (kind rows : Int) (v sv : Value) (xs sel : List Nat) (w : World) (hT : Tab w) (hv : Rd w v xs.length 1 (u8s xs)) (hb : ∀ x ∈ xs, x < 256) (hl : xs.length ≤ 16777216) (hs : Rd w sv sel.length 1 (u64s sel)) (hsv : ∀ x ∈ sel, x < 18446744073709551616) (hsl : sel.length ≤ maxLen) :
    Calls Tryz.prog 16 #[.int .i64 kind, .int .i64 rows, v, sv] w fun e w' => e = .returned (.tuple #[(rfoPart kind rows xs sel).v, .int .i64 (rfoCode kind rows xs sel)]) ∧ Below w.heap.size w w' := by
  refine (Fold_core w v sv xs sel kind rows (QF_I rows.toNat xs sel) (QF_S rows.toNat xs sel) hv hs hsv hsl ?_ ?_).mono ?_
  · intro hk hok w2 hb2
    obtain ⟨hr0, hr1⟩ := okPack_rg hok
    obtain ⟨n, rfl⟩ := Int.eq_ofNat_of_zero_le hr0
    have hn : n ≤ 65536 := by omega
    rw [Int.toNat_natCast]
    refine (fold_I w2 v sv xs sel n (hT.mono hb2 hT.lt) (hv.mono hb2) hb hl hn (hs.mono hb2) hsv (okPack_len hok) (okPack_bits hok) (foD_I n xs sel hb hl hn (okPack_bits hok) (okPack_len hok))).mono ?_
    rintro e w3 ⟨hb3, ⟨h0, rfl⟩ | ⟨h0, rfl⟩⟩
    · exact ⟨hb3, _, _, rfl, .inl ⟨h0, rfl, rfl⟩⟩
    · exact ⟨hb3, _, _, rfl, .inr ⟨h0, rfl, rfl⟩⟩
  · intro hk hok w2 hb2
    obtain ⟨hr0, hr1⟩ := okPack_rg hok
    obtain ⟨n, rfl⟩ := Int.eq_ofNat_of_zero_le hr0
    have hn : n ≤ 65536 := by omega
    rw [Int.toNat_natCast]
    refine (fold_S w2 v sv xs sel n (hT.mono hb2 hT.lt) (hv.mono hb2) hb hl hn (hs.mono hb2) hsv (okPack_len hok) (okPack_bits hok) (foD_S n xs sel hb hl hn (okPack_bits hok) (okPack_len hok))).mono ?_
    rintro e w3 ⟨hb3, ⟨h0, rfl⟩ | ⟨h0, rfl⟩⟩
    · exact ⟨hb3, _, _, rfl, .inl ⟨h0, rfl, rfl⟩⟩
    · exact ⟨hb3, _, _, rfl, .inr ⟨h0, rfl, rfl⟩⟩
  · rintro e w' ⟨hb', p, c, rfl, hq⟩
    refine ⟨?_, hb'⟩
    suffices h : p = rfoPart kind rows xs sel ∧ c = rfoCode kind rows xs sel by rw [h.1, h.2]
    rcases hq with ⟨h1, rfl, rfl⟩ | ⟨rfl, hok, hq⟩ | ⟨rfl, hok, hq⟩
    · have e1 : rfoCode kind rows xs sel = 5 := by
        unfold rfoCode
        rw [if_neg (by
          intro h
          simp only [Bool.and_eq_true] at h
          rw [h.1.1, h.2] at h1; cases h1)]
      refine ⟨?_, e1.symm⟩
      unfold rfoPart
      rw [e1, if_neg (by decide)]
    · obtain ⟨hr0, hr1⟩ := okPack_rg hok
      obtain ⟨n, rfl⟩ := Int.eq_ofNat_of_zero_le hr0
      have hn : n ≤ 65536 := by omega
      rw [Int.toNat_natCast] at hq
      have hk : isKind 1 = true := by decide
      have hrw : isRows n = true := by unfold isRows; exact decide_eq_true (by omega)
      have hg : (isKind 1 && isRows n) = true := by rw [hk, hrw]; rfl
      have hrc : refCode 1 n xs = if rOk 1 n xs = true then 0 else 1 := by unfold refCode; rw [if_pos hg]; rfl
      have e1 : rfoCode 1 n xs sel = if rOk 1 n xs = true then 0 else 1 := by unfold rfoCode; rw [hk, hrw, hok, ← hrc]; rfl
      have hm := (meet_I n xs hn).1
      rcases hq with ⟨h1, rfl, rfl⟩ | ⟨h1, rfl, rfl⟩
      · rw [hm] at h1
        rw [h1] at e1
        refine ⟨?_, e1.symm⟩
        unfold rfoPart
        rw [e1]; rfl
      · have h2 := h1
        rw [hm] at h2
        rw [h2] at e1
        refine ⟨?_, e1.symm⟩
        unfold rfoPart
        rw [e1, foldEq_I n xs sel hb hl hn (okPack_bits hok) (okPack_len hok) h1]; rfl
    · obtain ⟨hr0, hr1⟩ := okPack_rg hok
      obtain ⟨n, rfl⟩ := Int.eq_ofNat_of_zero_le hr0
      have hn : n ≤ 65536 := by omega
      rw [Int.toNat_natCast] at hq
      have hk : isKind 2 = true := by decide
      have hrw : isRows n = true := by unfold isRows; exact decide_eq_true (by omega)
      have hg : (isKind 2 && isRows n) = true := by rw [hk, hrw]; rfl
      have hrc : refCode 2 n xs = if rOk 2 n xs = true then 0 else 1 := by unfold refCode; rw [if_pos hg]; rfl
      have e1 : rfoCode 2 n xs sel = if rOk 2 n xs = true then 0 else 1 := by unfold rfoCode; rw [hk, hrw, hok, ← hrc]; rfl
      have hm := (meet_S n xs hn).1
      rcases hq with ⟨h1, rfl, rfl⟩ | ⟨h1, rfl, rfl⟩
      · rw [hm] at h1
        rw [h1] at e1
        refine ⟨?_, e1.symm⟩
        unfold rfoPart
        rw [e1]; rfl
      · have h2 := h1
        rw [hm] at h2
        rw [h2] at e1
        refine ⟨?_, e1.symm⟩
        unfold rfoPart
        rw [e1, foldEq_S n xs sel hb hl hn (okPack_bits hok) (okPack_len hok) h1]; rfl
end Go.Proofs.YthonbfojpbfmgaaGreatDoor

/- Mathematics of the round trip: the head, the cells, the whole body. -/
set_option linter.unusedVariables false
set_option linter.unusedSimpArgs false
set_option linter.unnecessarySimpa false
set_option maxRecDepth 100000
namespace Go.Proofs.YthonbfojpbfmgaaGreatDoor
open Go.RowKit

theorem getD_mem3 {cs : List C3} {i : Nat} (h : i < cs.length) : cs.getD i C3.df ∈ cs := by
  have : cs.getD i C3.df = cs[i] := by simp [List.getD, List.getElem?_eq_getElem h]
  rw [this]; exact List.getElem_mem h
theorem rN_words (n : Nat) : L.nWords 1 n = rN n := by
  rw [L.nWords_pos (by decide)]; unfold rN; rfl
theorem head_at {xs pay : List Nat} {a b : Nat} {cs : List C3} (hl : cs.length ≤ 65536) (h : xs = ([a, b] ++ le8 (bmL (cs.map C3.n))) ++ pay) :
    rWs cs.length xs = bmL (cs.map C3.n) ∧ rHd cs.length xs = true ∧ xs.getD 0 0 = a ∧ xs.getD 1 0 = b ∧ xs.drop (2 + 8 * rN cs.length) = pay ∧ 2 + 8 * rN cs.length ≤ xs.length := by
  have hb := bmL_isBm (cs.map C3.n)
  have hm : (bmL (cs.map C3.n)).length = rN cs.length := by rw [hb.1, List.length_map, rN_words]
  have hd : xs.drop 2 = le8 (bmL (cs.map C3.n)) ++ pay := by rw [h]; rfl
  have hx : xs.length = 2 + 8 * rN cs.length + pay.length := by
    rw [h, List.length_append, List.length_append, le8_len, hm]; rfl
  have hn := nums_at (by decide) (by omega) hd (fun x hx => by rw [p64]; exact hb.2.1 x hx)
  rw [hm] at hn
  have hw : rWs cs.length xs = bmL (cs.map C3.n) := hn.2
  refine ⟨hw, ?_, by rw [h]; rfl, by rw [h]; rfl, ?_, by omega⟩
  · unfold rHd
    rw [hn.1, hw, Bool.true_and]
    have hp := L.pack_isPack (w := 1) (by omega) ((cs.map C3.n).map Bool.toNat) (toNat_lt _)
    rw [List.length_map, List.length_map] at hp
    exact (okPack_nat (wd := 1) (n := cs.length) _ (by decide) hl).2 hp
  · exact drop_app hd (by rw [le8_len, hm])
theorem bit_at (cs : List C3) (i : Nat) (h : i < cs.length) : bitOf (bmL (cs.map C3.n)) i = (cs.getD i C3.df).n := by
  have hb := bmL_isBm (cs.map C3.n)
  have h1 := hb.1
  rw [List.length_map, rN_words] at h1
  have h2 := hb.2.2 i (by rw [h1]; unfold rN; omega)
  rw [h2, List.length_map, decide_eq_true h, Bool.true_and]
  simp [List.getD, List.getElem?_eq_getElem h]
theorem rank_vals (cs : List C3) : ∀ t, t ≤ cs.length → rankN (bmL (cs.map C3.n)) t + (valsOf (cs.take t)).length = t := by
  intro t
  induction t with
  | zero => intro _; simp [rankN, valsOf]
  | succ t ih =>
    intro h
    have h1 := ih (by omega)
    rw [rankN_succ, bit_at cs t (by omega), take_snoc cs C3.df t (by omega), valsOf_snoc, List.length_append]
    cases (cs.getD t C3.df).n <;> simp <;> omega
theorem valsOf_app (a b : List C3) : valsOf (a ++ b) = valsOf a ++ valsOf b := by simp [valsOf]
theorem valsOf_cons (c : C3) (r : List C3) : valsOf (c :: r) = (if c.n = true then [] else [(c.i, c.s)]) ++ valsOf r := by
  have := valsOf_app [c] r
  rw [List.singleton_append] at this
  rw [this]
  congr 1
  unfold valsOf
  cases h : c.n <;> simp [h]
theorem val_at (cs : List C3) (r : Nat) (h : r < cs.length) (hn : (cs.getD r C3.df).n = false) : (valsOf cs).getD (r - rankN (bmL (cs.map C3.n)) r) dfP = ((cs.getD r C3.df).i, (cs.getD r C3.df).s) := by
  have h1 := rank_vals cs r (by omega)
  have e : cs = cs.take r ++ (cs.getD r C3.df :: cs.drop (r + 1)) := by
    simp only [List.getD, List.getElem?_eq_getElem h, Option.getD_some]
    rw [← List.drop_eq_getElem_cons h, List.take_append_drop]
  have h2 : valsOf cs = valsOf (cs.take r) ++ (((cs.getD r C3.df).i, (cs.getD r C3.df).s) :: valsOf (cs.drop (r + 1))) := by
    conv => lhs; rw [e]
    rw [valsOf_app, valsOf_cons, hn]; rfl
  rw [h2]
  have h3 : r - rankN (bmL (cs.map C3.n)) r = (valsOf (cs.take r)).length := by omega
  rw [h3]
  simp [List.getD]
/-- a NULL has nothing in its other fields -/
def nullOk (c : C3) : Prop := c.n = true → c.i = 0 ∧ c.s = ByteArray.empty
theorem ofK_null {k : Int} {c : C3} (h : ofK k c = true) : nullOk c := by
  intro hn
  unfold ofK at h
  rw [if_pos hn] at h
  simp only [Bool.and_eq_true, decide_eq_true_eq, List.isEmpty_iff] at h
  refine ⟨h.2.1, ?_⟩
  have h1 := h.2.2
  rw [ByteArray.toList_eq] at h1
  obtain ⟨n, i, ⟨s⟩⟩ := c
  simp only at h1 ⊢
  rw [show s = #[] from Array.toList_inj.1 h1]; rfl
theorem cell_atZ (cs : List C3) (r : Nat) (h : r < cs.length) (hz : nullOk (cs.getD r C3.df)) :
    cA (bmL (cs.map C3.n)) r = (cs.getD r C3.df).n ∧ cB (bmL (cs.map C3.n)) (valsOf cs) r = (cs.getD r C3.df).i ∧ cC (bmL (cs.map C3.n)) (valsOf cs) r = (cs.getD r C3.df).s := by
  have hb := bit_at cs r h
  unfold cA cB cC
  rw [hb]
  cases hn : (cs.getD r C3.df).n with
  | true => obtain ⟨h1, h2⟩ := hz hn; exact ⟨rfl, by rw [if_pos rfl, h1], by rw [if_pos rfl, h2]⟩
  | false => rw [val_at cs r h hn]; simp
theorem cellsUp_eq (A : Nat → Bool) (B : Nat → Int) (C : Nat → ByteArray) (ds : List C3) : ∀ t, t ≤ ds.length → (∀ i, i < t → A i = (ds.getD i C3.df).n ∧ B i = (ds.getD i C3.df).i ∧ C i = (ds.getD i C3.df).s) → cellsUp A B C t = cells3 (ds.take t) := by
  intro t
  induction t with
  | zero => intro _ _; rfl
  | succ t ih =>
    intro h1 h2
    rw [cellsUp, ih (by omega) (fun i hi => h2 i (by omega)), take_snoc ds C3.df t (by omega), cells3_snoc]
    obtain ⟨e1, e2, e3⟩ := h2 t (by omega)
    rw [e1, e2, e3]
theorem vals_ok {kd : Nat} {cs : List C3} (hkd : kd = 1 ∨ kd = 2) (hall : cs.all (ofK kd) = true) (hI : ∀ x ∈ cs, okI x.i) : ∀ v ∈ valsOf cs, okV kd v := by
  intro v hv
  unfold valsOf at hv
  obtain ⟨c, hc, rfl⟩ := List.mem_map.1 hv
  obtain ⟨h1, h2⟩ := List.mem_filter.1 hc
  have h3 := List.all_eq_true.1 hall c h1
  unfold ofK at h3
  rw [if_neg (by simpa using h2)] at h3
  unfold okV
  rcases hkd with rfl | rfl
  · rw [if_pos (by rfl), List.isEmpty_iff] at h3
    rw [if_pos rfl]
    refine ⟨hI c h1, ?_⟩
    rw [ByteArray.toList_eq] at h3
    obtain ⟨n, i, ⟨s⟩⟩ := c
    simp only at h3 ⊢
    rw [show s = #[] from Array.toList_inj.1 h3]; rfl
  · rw [if_neg (by decide)] at h3
    rw [if_neg (by decide)]
    simp only [decide_eq_true_eq] at h3
    exact ⟨h3.2.1, h3.2.2⟩
/-- what was encoded stands for the cells -/
theorem body_back {k c wd : Int} {cs : List C3} (hok : encCode k c wd cs = 0) (hI : ∀ x ∈ cs, okI x.i) (hs : sumT (valsOf cs) < 4294967296) :
    isKind k = true ∧ isRows cs.length = true ∧ rOk k.toNat cs.length (encB k c wd cs) = true ∧ rWs cs.length (encB k c wd cs) = bmL (cs.map C3.n) ∧ (rPay k.toNat cs.length (encB k c wd cs)).2 = valsOf cs ∧ cs.all (ofK k) = true := by
  unfold encCode at hok
  split at hok
  · omega
  · rename_i hbad
    split at hok
    · rename_i hp
      unfold encBad at hbad
      simp only [Bool.or_eq_true, Bool.not_eq_true', decide_eq_true_eq, not_or, Bool.not_eq_false] at hbad
      obtain ⟨⟨hc, hl⟩, hall⟩ := hbad
      obtain ⟨pw, hpw, hp64⟩ := payW_nat k c wd (valsOf cs) hc
      obtain ⟨kd, cn, rfl, rfl, hkd, hc1, hc5⟩ := isCodec_nat k c wd hc
      simp only [Int.toNat_natCast] at hp hpw ⊢
      have hB : encB kd cn wd cs = ([cn, pw] ++ le8 (bmL (cs.map C3.n))) ++ payB kd cn wd (valsOf cs) := by
        unfold encB; simp only [Int.toNat_natCast]; rw [hpw, Int.toNat_natCast]
      obtain ⟨h1, h2, h3, h4, h5, h6⟩ := head_at (by omega) hB
      generalize encB kd cn wd cs = xs at *
      have hk : rK cs.length xs = (valsOf cs).length := by
        unfold rK
        rw [h1]
        have := rank_vals cs cs.length (Nat.le_refl _)
        rw [List.take_length] at this; omega
      have hpay : rPay kd cs.length xs = (true, valsOf cs) := by
        unfold rPay
        rw [h3, h4, hk]
        exact pay_at hkd hc hpw h6 h5 hp (vals_ok hkd hall hI) hs (by have := valsOf_len cs; omega)
      refine ⟨?_, ?_, ?_, h1, by rw [hpay], hall⟩
      · unfold isKind; exact decide_eq_true (by omega)
      · unfold isRows; exact decide_eq_true (by omega)
      · unfold rOk
        rw [h2, hpay, hk]; simp
    · omega
theorem decode_back {k c wd : Int} {cs : List C3} (hok : encCode k c wd cs = 0) (hI : ∀ x ∈ cs, okI x.i) (hs : sumT (valsOf cs) < 4294967296) :
    refCode k cs.length (encB k c wd cs) = 0 ∧ refLen k cs.length (encB k c wd cs) = cs.length ∧ refCells k cs.length (encB k c wd cs) = cells3 cs := by
  obtain ⟨h1, h2, h3, h4, h5, h6⟩ := body_back hok hI hs
  have h0 : refCode k cs.length (encB k c wd cs) = 0 := by
    unfold refCode
    rw [h1, h2, Int.toNat_natCast, h3]; rfl
  refine ⟨h0, ?_, ?_⟩
  · unfold refLen; rw [if_pos h0, Int.toNat_natCast]
  · unfold refCells
    rw [if_pos h0, Int.toNat_natCast]
    unfold rCells
    rw [h4, h5]
    have := cellsUp_eq (cA (bmL (cs.map C3.n))) (cB (bmL (cs.map C3.n)) (valsOf cs)) (cC (bmL (cs.map C3.n)) (valsOf cs)) cs cs.length (Nat.le_refl _) (fun i hi => cell_atZ cs i hi (ofK_null (List.all_eq_true.1 h6 _ (getD_mem3 hi))))
    rwa [List.take_length] at this
theorem leN_mem {k n x : Nat} (h : x ∈ leN k n) : x < 256 := leN_lt k n x h
theorem flat_mem {k : Nat} {ns : List Nat} : ∀ x ∈ ns.flatMap (leN k), x < 256 := by
  intro x hx
  obtain ⟨n, _, h⟩ := List.mem_flatMap.1 hx
  exact leN_mem h
theorem listB_lt (kd : Nat) (vs : List PV) : ∀ x ∈ listB kd vs, x < 256 := by
  intro x hx
  unfold listB at hx
  rcases List.mem_append.1 hx with h | h
  · unfold headB at h
    split at h
    · exact flat_mem x h
    · exact flat_mem x h
  · unfold textB at h
    obtain ⟨s, _, h⟩ := List.mem_flatMap.1 h
    exact sbs_lt s x h
theorem payB_lt (kd cn : Nat) (wd : Int) (vs : List PV) : ∀ x ∈ payB kd cn wd vs, x < 256 := by
  intro x hx
  unfold payB at hx
  split at hx
  · unfold dictB at hx
    rcases List.mem_append.1 hx with h | h
    · rcases List.mem_append.1 h with h | h
      · exact leN_mem h
      · exact listB_lt _ _ x h
    · exact flat_mem x h
  · split at hx
    · unfold runsB at hx
      rcases List.mem_append.1 hx with h | h
      · rcases List.mem_append.1 h with h | h
        · exact leN_mem h
        · exact flat_mem x h
      · exact listB_lt _ _ x h
    · split at hx
      · unfold frameB at hx
        rcases List.mem_append.1 hx with h | h
        · exact leN_mem h
        · exact flat_mem x h
      · split at hx
        · exact flat_mem x hx
        · exact listB_lt _ _ x hx
theorem listB_len2 (kd : Nat) (vs : List PV) : (listB kd vs).length ≤ 8 * vs.length + sumT vs := by
  unfold listB
  rw [List.length_append, textB_len]
  have := headB_len kd vs
  unfold sumT; omega
theorem packR_len2 (wd : Int) (xs : List Nat) : (packR wd xs).length ≤ xs.length := by
  unfold packR
  split
  · rename_i h
    obtain ⟨h1, h2⟩ := (okVals_iff wd xs).1 h
    rw [L.packL_length]
    exact L.nWords_le (by omega)
  · simp
theorem payB_len2 (kd cn : Nat) (wd : Int) (vs : List PV) : (payB kd cn wd vs).length ≤ 2064 + 12 * vs.length + sumT vs := by
  unfold payB
  split
  · unfold dictB
    have h1 := listB_len2 kd (diffP vs)
    have h2 := packR_len2 (needN (diffP vs).length : Nat) (lanesD vs)
    have h3 := diffP_len vs
    have h4 := diffP_sum vs
    have h5 : (lanesD vs).length = vs.length := by unfold lanesD; rw [List.length_map]
    rw [List.length_append, List.length_append, leN_length, le8_len]; omega
  · split
    · unfold runsB
      have h1 := listB_len2 kd (runHeads vs vs.length)
      have h2 := runHeads_len vs vs.length
      have h3 := runEndsL_len vs vs.length
      have h4 := runHeads_sum vs
      rw [List.length_append, List.length_append, leN_length, le4N_len]; omega
    · split
      · unfold frameB
        have h2 := packR_len2 wd (lanesF (toU (minP vs).1) vs)
        have h5 : (lanesF (toU (minP vs).1) vs).length = vs.length := by unfold lanesF; rw [List.length_map]
        rw [List.length_append, leN_length, le8_len]; omega
      · split
        · unfold packedB
          have h2 := packR_len2 wd (lanesK vs)
          have h5 : (lanesK vs).length = vs.length := by unfold lanesK; rw [List.length_map]
          rw [le8_len]; omega
        · have := listB_len2 kd vs; omega
/-- the body is a list of bytes, and not too long -/
theorem encB_bytes {k c wd : Int} {cs : List C3} (hok : encCode k c wd cs = 0) (hs : sumT (valsOf cs) ≤ 1048576) : (∀ x ∈ encB k c wd cs, x < 256) ∧ (encB k c wd cs).length ≤ 16777216 := by
  unfold encCode at hok
  split at hok
  · omega
  · rename_i hbad
    unfold encBad at hbad
    simp only [Bool.or_eq_true, Bool.not_eq_true', decide_eq_true_eq, not_or, Bool.not_eq_false] at hbad
    obtain ⟨⟨hc, hl⟩, hall⟩ := hbad
    obtain ⟨pw, hpw, hp64⟩ := payW_nat k c wd (valsOf cs) hc
    obtain ⟨kd, cn, rfl, rfl, hkd, hc1, hc5⟩ := isCodec_nat k c wd hc
    unfold encB
    simp only [Int.toNat_natCast] at hpw ⊢
    rw [hpw, Int.toNat_natCast]
    constructor
    · intro x hx
      rcases List.mem_append.1 hx with h | h
      · rcases List.mem_append.1 h with h | h
        · simp only [List.mem_cons, List.not_mem_nil, or_false] at h; omega
        · exact flat_mem x h
      · exact payB_lt _ _ _ _ x h
    · have h1 := payB_len2 kd cn wd (valsOf cs)
      have h2 := valsOf_len cs
      have h3 := bmL_len (cs.map C3.n)
      rw [List.length_map, rN_words] at h3
      unfold rN at h3
      rw [List.length_append, List.length_append, le8_len, h3]
      simp only [List.length_cons, List.length_nil]
      omega
end Go.Proofs.YthonbfojpbfmgaaGreatDoor

/- LawKernel: what the filter of an encoded chunk answers, cell by cell. -/
set_option linter.unusedVariables false
set_option linter.unusedSimpArgs false
set_option linter.unnecessarySimpa false
set_option maxRecDepth 100000
namespace Go.Proofs.YthonbfojpbfmgaaGreatDoor
open Go.RowKit

theorem up_cells {A : Nat → Bool} {B : Nat → Int} {C : Nat → ByteArray} {cs : List C3} (h : cellsUp A B C cs.length = cells3 cs) : ∀ i, i < cs.length → A i = (cs.getD i C3.df).n ∧ B i = (cs.getD i C3.df).i ∧ C i = (cs.getD i C3.df).s := by
  intro i hi
  obtain ⟨g0, g1, g2⟩ := cellsUp_get A B C cs.length i hi
  obtain ⟨k0, k1, k2⟩ := cells3_get cs i hi
  rw [h] at g0 g1 g2
  rw [k0] at g0
  rw [k1] at g1
  rw [k2] at g2
  injection g0 with g0
  injection g1 with g1
  injection g2 with g2
  injection g0 with g0
  injection g1 with _ g1
  injection g2 with g2
  exact ⟨g0.symm, g1.symm, g2.symm⟩
theorem getD_mem {cs : List C3} {i : Nat} (h : i < cs.length) : cs.getD i C3.df ∈ cs := by
  simp [List.getD, h]
end Go.Proofs.YthonbfojpbfmgaaGreatDoor

/- What a fold tells of cells that were encoded: the Part of the values that are picked. -/
set_option linter.unusedVariables false
set_option linter.unusedSimpArgs false
set_option linter.unnecessarySimpa false
set_option maxRecDepth 20000
namespace Go.Proofs.YthonbfojpbfmgaaGreatDoor
open Go.RowKit

/-- the values of the cells that are picked -/
def pickV (cs : List C3) (F : Nat → Bool) : List PV := ((List.range cs.length).filter fun r => F r && !(cs.getD r C3.df).n).map fun r => ((cs.getD r C3.df).i, (cs.getD r C3.df).s)
theorem okPack_bitsOf {n : Nat} {F : Nat → Bool} {zs : List Nat} (hn : n ≤ 65536) (h : BitsOf n F zs) : okPack 1 n zs = true := by
  have hz : zs = bmL ((List.range n).map F) := bits_eq h (by simp) (fun r hr => by simp [List.getD, hr])
  have hpk := L.pack_isPack (w := 1) (by omega) (((List.range n).map F).map Bool.toNat) (toNat_lt _)
  rw [List.length_map, List.length_map, List.length_range] at hpk
  have e : L.packL 1 (((List.range n).map F).map Bool.toNat) = zs := hz.symm
  rw [e] at hpk
  exact (okPack_nat (wd := 1) (n := n) zs (by decide) hn).2 hpk
theorem split_vals {k c wd : Int} {cs : List C3} {sel : List Nat} {F : Nat → Bool} (hok : encCode k c wd cs = 0) (hI : ∀ x ∈ cs, okI x.i) (hs : sumT (valsOf cs) < 4294967296) (hl : cs.length ≤ 65536) (hb : BitsOf cs.length F sel) :
    rfoCode k cs.length (encB k c wd cs) sel = 0 ∧ rfoPart k cs.length (encB k c wd cs) sel = refP (pickV cs F) := by
  obtain ⟨h1, h2, h3, h4, h5, h6⟩ := body_back hok hI hs
  obtain ⟨d1, d2, d3⟩ := decode_back hok hI hs
  have hp := okPack_bitsOf hl hb
  have hc : rfoCode k cs.length (encB k c wd cs) sel = 0 := by unfold rfoCode; rw [h1, h2, hp]; exact d1
  refine ⟨hc, ?_⟩
  unfold rfoPart
  rw [if_pos hc]
  congr 1
  unfold refCells at d3
  rw [if_pos d1, Int.toNat_natCast] at d3
  unfold rCells at d3
  have hu := up_cells d3
  unfold rfoVals selV pickV
  rw [Int.toNat_natCast]
  have e1 : (List.range cs.length).filter (fun r => bitOf sel r && !cA (rWs cs.length (encB k c wd cs)) r) = (List.range cs.length).filter (fun r => F r && !(cs.getD r C3.df).n) := by
    apply List.filter_congr
    intro r hr
    have hr2 := List.mem_range.1 hr
    rw [hb.2.2 r, (hu r hr2).1, decide_eq_true hr2, Bool.true_and]
  rw [e1]
  apply List.map_congr_left
  intro r hr
  rw [List.mem_filter, List.mem_range] at hr
  rw [(hu r hr.1).2.1, (hu r hr.1).2.2]
end Go.Proofs.YthonbfojpbfmgaaGreatDoor

/- LawKernel: the cells that the law makes, and the codec that it asks for. -/
set_option linter.unusedVariables false
set_option linter.unusedSimpArgs false
set_option linter.unnecessarySimpa false
set_option maxRecDepth 100000
namespace Go.Proofs.YthonbfojpbfmgaaGreatDoor
open Go.RowKit

theorem fitting_any (kind : Int) (n : Nat) (pick : Nat) (w : World) : Calls Tryz.prog 43 #[.int .i64 kind, .int .i64 n, .int .i64 pick] w fun e w' => e = .returned (.tuple #[.int .i64 (fitC kind n pick).1, .int .i64 (fitC kind n pick).2]) ∧ w' = w := by
  obtain ⟨m, hm⟩ : ∃ m, pick % 4 = m := ⟨_, rfl⟩
  have hm4 : m < 4 := by omega
  have hmi : (pick : Int) % 4 = (m : Int) := by omega
  have hmt : Int.tmod (pick : Int) 4 = (m : Int) := by rw [Int.tmod_eq_emod_of_nonneg (by omega)]; exact hmi
  unfold fitC
  rw [hm]
  go_enter Tryz.func43, Tryz.ntmps43
  have hmm : m = 0 ∨ m = 1 ∨ m = 2 ∨ m = 3 := by omega
  rcases hmm with rfl | rfl | rfl | rfl
  · rw [if_neg (by omega), if_neg (by omega), if_neg (by omega)]
    go_wp2_with fail
    go_ret2
    exact ⟨rfl, rfl⟩
  · by_cases h : n ≤ 256
    · have hi : (n : Int) ≤ 256 := by omega
      rw [if_pos ⟨rfl, h⟩]
      go_wp2_with fail
      go_ret2
      exact ⟨rfl, rfl⟩
    · have hi : ¬ (n : Int) ≤ 256 := by omega
      rw [if_neg (by omega), if_neg (by omega), if_neg (by omega)]
      go_wp2_with fail
      go_ret2
      exact ⟨rfl, rfl⟩
  · rw [if_neg (by omega), if_pos rfl]
    go_wp2_with fail
    go_ret2
    exact ⟨rfl, rfl⟩
  · by_cases h : kind = 1
    · subst h
      rw [if_neg (by omega), if_neg (by omega), if_pos ⟨rfl, rfl⟩]
      go_wp2_with fail
      go_ret2
      exact ⟨rfl, rfl⟩
    · have hk : (kind == 1) = false := by simp [h]
      rw [if_neg (by omega), if_neg (by omega), if_neg (by omega)]
      go_wp2_with fail
      go_ret2
      exact ⟨rfl, rfl⟩
end Go.Proofs.YthonbfojpbfmgaaGreatDoor

/- Package codec: the payloads of frames and of packed lanes. -/
set_option linter.unusedVariables false
set_option linter.unusedSimpArgs false
set_option linter.unnecessarySimpa false
set_option maxRecDepth 100000
namespace Go.Proofs.YthonbfojpbfmgaaGreatDoor
open Go.RowKit

theorem ordP_pI_lt (x y : Int) : ordP (pI x) (pI y) < 0 ↔ x < y := by
  constructor
  · intro h
    unfold ordP pI at h
    by_cases h1 : x < y
    · exact h1
    · rw [if_neg h1] at h
      by_cases h2 : y < x
      · rw [if_pos h2] at h; omega
      · rw [if_neg h2, ordS_refl0] at h; omega
  · intro h; exact ordP_neg ((gtP_pI x y).2 h)
theorem minP_I (xs : List Int) : minP (xs.map pI) = pI (Lib.minOf xs) := by
  cases xs with
  | nil => rfl
  | cons a r =>
    unfold Lib.minOf
    rw [List.map_cons, List.headD_cons, List.foldl_cons]
    show (r.map pI).foldl _ (pI a) = _
    rw [show min a a = a by omega]
    generalize a = m
    induction r generalizing m with
    | nil => rfl
    | cons b r ih =>
      rw [List.map_cons, List.foldl_cons, List.foldl_cons]
      by_cases h : b < m
      · rw [if_pos ((ordP_pI_lt b m).2 h), ih b, show min m b = b by omega]
      · rw [if_neg (fun h2 => h ((ordP_pI_lt b m).1 h2)), ih m, show min m b = m by omega]
theorem Min_any (xs : List Int) (u : Value) (w : World) (hu : Rd w u xs.length 1 (i64s xs)) (h0 : 0 < xs.length) (hl : xs.length ≤ 1048576) :
    Calls Tryz.prog 224 #[u] w fun e w' => e = .returned (.int .i64 (minP (xs.map pI)).1) ∧ w' = w := by
  obtain ⟨A1, c1, rfl, _, _, _⟩ := hu.form
  obtain ⟨b, o, rfl, hs⟩ := hu.atI h0
  have h := Tryz.slices_Min_int b o xs.length c1 xs w h0 (Nat.le_refl _) (by omega) hs
  rw [List.take_length] at h
  rw [minP_I]
  exact h
set_option maxHeartbeats 4000000 in
theorem framePayload_any (wd : Int) (xs : List Int) (u : Value) (w : World) (hu : Rd w u xs.length 1 (i64s xs)) (hl : xs.length ≤ 1048576) :
    Calls Tryz.prog 176 #[u, .int .i64 wd] w fun e w' => ∃ r, e = .returned (.tuple #[r, .bool (frameOk wd (xs.map pI))]) ∧ (∃ A n c, r = .slice A n c) ∧
      (frameOk wd (xs.map pI) = true → OwnB w.heap.size w' r (frameB wd (xs.map pI))) ∧ Below w.heap.size w w' := by
  have HMN := hid (fun (h0 : 0 < xs.length) => Min_any xs u w hu h0 hl)
  have HM0 := hid (fun (h0 : xs.length = 0) => (show (minP (xs.map pI)).1 = 0 by rw [List.eq_nil_of_length_eq_zero h0]; rfl))
  have HPF := hid (packFrom_any (minP (xs.map pI)).1 wd xs u w hu hl)
  obtain ⟨A1, c1, rfl, _, _, _⟩ := hu.form
  unfold frameOk frameB
  obtain ⟨bi, hbi⟩ : ∃ bi, (minP (xs.map pI)).1 = bi := ⟨_, rfl⟩
  rw [hbi] at HMN HM0 HPF ⊢
  have HWL := hid (packR_lt64 wd (lanesF (toU bi) (xs.map pI)))
  have HWN := hid (packR_le wd (lanesF (toU bi) (xs.map pI)) (by unfold lanesF; rw [List.length_map, List.length_map]; exact hl))
  generalize packR wd (lanesF (toU bi) (xs.map pI)) = ws at *
  generalize okVals wd (lanesF (toU bi) (xs.map pI)) = ok at *
  have hbu := wrap_toU bi
  have hbl := toU_lt bi
  generalize toU bi = bu at *
  generalize xs.length = n at *
  clear hu hbi
  have HNU := hid (fun (w2 : World) => AppendU64_any w2.heap.size (.slice none 0 0) [] bu w2 (OwnB.nil _ _) (Nat.le_refl _) hbl (by simp))
  simp only [List.nil_append] at HNU
  have HHH : Hid ((leN 8 bu).length = 8) := hid (leN_length 8 bu)
  generalize leN 8 bu = hd at *
  have HPA := hid (fun (B : Nat) (A3 : Option Addr) (c3 : Nat) (A4 : Option Addr) (c4 : Nat) (w0 w3 : World) (h1 : OwnB w0.heap.size w3 (.slice A3 hd.length c3) hd) (h2 : Below w0.heap.size w0 w3) (h3 : Rd w0 (.slice A4 ws.length c4) ws.length 1 (u64s ws)) => AppendU64s_any w0.heap.size (.slice A3 hd.length c3) (.slice A4 ws.length c4) hd ws w3 h1 (Stay.low h3 h2 (Nat.le_refl _)) HWL.out h2.size (by rw [HHH.out]; omega) HWN.out)
  generalize hd ++ le8 ws = R at *
  go_enter Tryz.func176, Tryz.ntmps176
  by_cases h0 : 0 < n
  · have HM := hid (HMN.out h0)
    clear HMN HM0
    have hg : (n : Int) > 0 := by omega
    cases ok
    · go_wp2_with (first
        | (go_at_call 224; refine HM.out.mono ?_; rintro e w3 ⟨rfl, hw⟩; replace hw := hw.symm; subst hw)
        | (go_at_call 225; refine HPF.out.mono ?_; rintro e w4 ⟨r, rfl, h1, h2⟩; obtain ⟨A4, c4, rfl, _⟩ := owns_form h1; have H1 := hid (owns_rd h1); have H2 := hid h2; clear h1 h2))
      go_ret2
      exact ⟨_, rfl, ⟨_, _, _, rfl⟩, fun h => (by cases h), H2.out⟩
    · go_wp2_with (first
        | (go_at_call 224; refine HM.out.mono ?_; rintro e w3 ⟨rfl, hw⟩; replace hw := hw.symm; subst hw)
        | (go_at_call 225; refine HPF.out.mono ?_; rintro e w4 ⟨r, rfl, h1, h2⟩; obtain ⟨A4, c4, rfl, _⟩ := owns_form h1; have H1 := hid (owns_rd h1); have H2 := hid h2; clear h1 h2)
        | (go_at_call 179; refine (HNU.out w4).mono ?_; rintro e w5 ⟨r, rfl, h1, h2, h3, h4⟩; obtain ⟨A5, c5, rfl⟩ := h1.form; have K1 := hid h1; have K2 := hid h2; clear h1 h2 h3 h4)
        | (go_at_call 134; refine (HPA.out 0 _ _ _ _ w4 w5 K1.out K2.out H1.out).mono ?_; rintro e w6 ⟨r, rfl, h1, h2, h3, h4⟩; obtain ⟨A6, c6, rfl⟩ := h1.form; have L1 := hid h1; have L2 := hid h2; clear h1 h2 h3 h4))
      go_ret2
      have G := hid (show OwnB w.heap.size w6 (.slice A6 R.length c6) R from owns_low L1.out H2.out.size)
      exact ⟨_, rfl, ⟨_, _, _, rfl⟩, G.out, H2.out.trans ((K2.out.trans L2.out).mono H2.out.size)⟩
  · have hb0 := HM0.out (by omega)
    obtain rfl : n = 0 := by omega
    subst hb0
    clear HMN HM0 h0
    cases ok
    · go_wp2_with (first
        | (go_at_call 225; refine HPF.out.mono ?_; rintro e w4 ⟨r, rfl, h1, h2⟩; obtain ⟨A4, c4, rfl, _⟩ := owns_form h1; have H1 := hid (owns_rd h1); have H2 := hid h2; clear h1 h2))
      go_ret2
      exact ⟨_, rfl, ⟨_, _, _, rfl⟩, fun h => (by cases h), H2.out⟩
    · go_wp2_with (first
        | (go_at_call 225; refine HPF.out.mono ?_; rintro e w4 ⟨r, rfl, h1, h2⟩; obtain ⟨A4, c4, rfl, _⟩ := owns_form h1; have H1 := hid (owns_rd h1); have H2 := hid h2; clear h1 h2)
        | (go_at_call 179; refine (HNU.out w4).mono ?_; rintro e w5 ⟨r, rfl, h1, h2, h3, h4⟩; obtain ⟨A5, c5, rfl⟩ := h1.form; have K1 := hid h1; have K2 := hid h2; clear h1 h2 h3 h4)
        | (go_at_call 134; refine (HPA.out 0 _ _ _ _ w4 w5 K1.out K2.out H1.out).mono ?_; rintro e w6 ⟨r, rfl, h1, h2, h3, h4⟩; obtain ⟨A6, c6, rfl⟩ := h1.form; have L1 := hid h1; have L2 := hid h2; clear h1 h2 h3 h4))
      go_ret2
      have G := hid (show OwnB w.heap.size w6 (.slice A6 R.length c6) R from owns_low L1.out H2.out.size)
      exact ⟨_, rfl, ⟨_, _, _, rfl⟩, G.out, H2.out.trans ((K2.out.trans L2.out).mono H2.out.size)⟩
end Go.Proofs.YthonbfojpbfmgaaGreatDoor

/- Package codec: the payload of packed lanes. -/
set_option linter.unusedVariables false
set_option linter.unusedSimpArgs false
set_option linter.unnecessarySimpa false
set_option maxRecDepth 100000
namespace Go.Proofs.YthonbfojpbfmgaaGreatDoor
open Go.RowKit

theorem foldl_min_neg (r : List Int) : ∀ m : Int, r.foldl min m < 0 ↔ m < 0 ∨ ∃ x ∈ r, x < 0 := by
  induction r with
  | nil => intro m; simp
  | cons a r ih =>
    intro m
    rw [List.foldl_cons, ih]
    constructor
    · rintro (h | ⟨x, hx, h⟩)
      · by_cases h1 : m < 0
        · exact .inl h1
        · exact .inr ⟨a, List.mem_cons_self, by omega⟩
      · exact .inr ⟨x, List.mem_cons_of_mem _ hx, h⟩
    · rintro (h | ⟨x, hx, h⟩)
      · exact .inl (by omega)
      · rcases List.mem_cons.1 hx with rfl | hx
        · exact .inl (by omega)
        · exact .inr ⟨x, hx, h⟩
theorem minP_neg (xs : List Int) : (xs.map pI).all (fun v => decide (0 ≤ v.1)) = !decide ((minP (xs.map pI)).1 < 0) := by
  rw [minP_I]
  show _ = !decide (Lib.minOf xs < 0)
  have h : Lib.minOf xs < 0 ↔ ∃ x ∈ xs, x < 0 := by
    unfold Lib.minOf
    cases xs with
    | nil => simp
    | cons a r =>
      rw [foldl_min_neg, List.headD_cons]
      simp
  by_cases hn : Lib.minOf xs < 0
  · rw [decide_eq_true hn]
    obtain ⟨x, hx, h1⟩ := h.1 hn
    rw [Bool.not_true, ← Bool.not_eq_true, List.all_eq_true]
    intro h2
    have := h2 (pI x) (List.mem_map.2 ⟨x, hx, rfl⟩)
    simp only [decide_eq_true_eq] at this
    have h3 : (pI x).1 = x := rfl
    omega
  · rw [decide_eq_false hn, Bool.not_false, List.all_eq_true]
    intro v hv
    obtain ⟨x, hx, rfl⟩ := List.mem_map.1 hv
    simp only [decide_eq_true_eq]
    have h3 : (pI x).1 = x := rfl
    by_cases h1 : x < 0
    · exact absurd (h.2 ⟨x, hx, h1⟩) hn
    · omega
theorem lanesF_zero (vs : List PV) : lanesF 0 vs = lanesK vs := by
  unfold lanesF lanesK
  apply List.map_congr_left
  intro v _
  have := toU_lt v.1
  generalize toU v.1 = y at *
  omega
set_option maxHeartbeats 4000000 in
theorem packedPayload_any (wd : Int) (xs : List Int) (u : Value) (w : World) (hu : Rd w u xs.length 1 (i64s xs)) (hl : xs.length ≤ 1048576) :
    Calls Tryz.prog 178 #[u, .int .i64 wd] w fun e w' => ∃ r, e = .returned (.tuple #[r, .bool (packedOk wd (xs.map pI))]) ∧ (∃ A n c, r = .slice A n c) ∧
      (packedOk wd (xs.map pI) = true → OwnB w.heap.size w' r (packedB wd (xs.map pI))) ∧ Below w.heap.size w w' := by
  have HMN := hid (fun (h0 : 0 < xs.length) => Min_any xs u w hu h0 hl)
  have HPF := hid (packFrom_any 0 wd xs u w hu hl)
  obtain ⟨A1, c1, rfl, _, _, _⟩ := hu.form
  rw [show toU 0 = 0 from rfl, lanesF_zero] at HPF
  unfold packedOk packedB
  rw [minP_neg]
  have HM0 := hid (fun (h0 : xs.length = 0) => (show (minP (xs.map pI)).1 = 0 by rw [List.eq_nil_of_length_eq_zero h0]; rfl))
  generalize (minP (xs.map pI)).1 = mi at *
  have HWL := hid (packR_lt64 wd (lanesK (xs.map pI)))
  have HWN := hid (packR_le wd (lanesK (xs.map pI)) (by unfold lanesK; rw [List.length_map, List.length_map]; exact hl))
  generalize packR wd (lanesK (xs.map pI)) = ws at *
  generalize okVals wd (lanesK (xs.map pI)) = ok at *
  generalize xs.length = n at *
  clear hu
  have HPA := hid (fun (A4 : Option Addr) (c4 : Nat) (w0 : World) (h3 : Rd w0 (.slice A4 ws.length c4) ws.length 1 (u64s ws)) => AppendU64s_any w0.heap.size (.slice none 0 0) (.slice A4 ws.length c4) [] ws w0 (OwnB.nil _ _) (Stay.low h3 (brefl _) (Nat.le_refl _)) HWL.out (Nat.le_refl _) (by simp) HWN.out)
  simp only [List.nil_append] at HPA
  generalize le8 ws = R at *
  go_enter Tryz.func178, Tryz.ntmps178
  by_cases h0 : 0 < n
  · have HM := hid (HMN.out h0)
    clear HMN HM0
    have hg : (n : Int) > 0 := by omega
    by_cases hm : mi < 0
    · rw [decide_eq_true hm]
      simp only [Bool.not_true, Bool.false_and]
      go_wp2_with (first
        | (go_at_call 224; refine HM.out.mono ?_; rintro e w3 ⟨rfl, hw⟩; replace hw := hw.symm; subst hw))
      go_ret2
      exact ⟨_, rfl, ⟨_, _, _, rfl⟩, fun h => (by cases h), brefl w⟩
    · rw [decide_eq_false hm]
      simp only [Bool.not_false, Bool.true_and]
      cases ok
      · go_wp2_with (first
          | (go_at_call 224; refine HM.out.mono ?_; rintro e w3 ⟨rfl, hw⟩; replace hw := hw.symm; subst hw)
          | (go_at_call 225; refine HPF.out.mono ?_; rintro e w4 ⟨r, rfl, h1, h2⟩; obtain ⟨A4, c4, rfl, _⟩ := owns_form h1; have H1 := hid (owns_rd h1); have H2 := hid h2; clear h1 h2))
        go_ret2
        exact ⟨_, rfl, ⟨_, _, _, rfl⟩, fun h => (by cases h), H2.out⟩
      · go_wp2_with (first
          | (go_at_call 224; refine HM.out.mono ?_; rintro e w3 ⟨rfl, hw⟩; replace hw := hw.symm; subst hw)
          | (go_at_call 225; refine HPF.out.mono ?_; rintro e w4 ⟨r, rfl, h1, h2⟩; obtain ⟨A4, c4, rfl, _⟩ := owns_form h1; have H1 := hid (owns_rd h1); have H2 := hid h2; clear h1 h2)
          | (go_at_call 134; refine (HPA.out _ _ w4 H1.out).mono ?_; rintro e w6 ⟨r, rfl, h1, h2, h3, h4⟩; obtain ⟨A6, c6, rfl⟩ := h1.form; have L1 := hid h1; have L2 := hid h2; clear h1 h2 h3 h4))
        go_ret2
        have G := hid (show OwnB w.heap.size w6 (.slice A6 R.length c6) R from owns_low L1.out H2.out.size)
        exact ⟨_, rfl, ⟨_, _, _, rfl⟩, G.out, H2.out.trans (L2.out.mono H2.out.size)⟩
  · have hm0 := HM0.out (by omega)
    obtain rfl : n = 0 := by omega
    subst hm0
    clear HMN HM0 h0
    simp only [show decide ((0 : Int) < 0) = false from rfl, Bool.not_false, Bool.true_and]
    cases ok
    · go_wp2_with (first
        | (go_at_call 225; refine HPF.out.mono ?_; rintro e w4 ⟨r, rfl, h1, h2⟩; obtain ⟨A4, c4, rfl, _⟩ := owns_form h1; have H1 := hid (owns_rd h1); have H2 := hid h2; clear h1 h2))
      go_ret2
      exact ⟨_, rfl, ⟨_, _, _, rfl⟩, fun h => (by cases h), H2.out⟩
    · go_wp2_with (first
        | (go_at_call 225; refine HPF.out.mono ?_; rintro e w4 ⟨r, rfl, h1, h2⟩; obtain ⟨A4, c4, rfl, _⟩ := owns_form h1; have H1 := hid (owns_rd h1); have H2 := hid h2; clear h1 h2)
        | (go_at_call 134; refine (HPA.out _ _ w4 H1.out).mono ?_; rintro e w6 ⟨r, rfl, h1, h2, h3, h4⟩; obtain ⟨A6, c6, rfl⟩ := h1.form; have L1 := hid h1; have L2 := hid h2; clear h1 h2 h3 h4))
      go_ret2
      have G := hid (show OwnB w.heap.size w6 (.slice A6 R.length c6) R from owns_low L1.out H2.out.size)
      exact ⟨_, rfl, ⟨_, _, _, rfl⟩, G.out, H2.out.trans (L2.out.mono H2.out.size)⟩
end Go.Proofs.YthonbfojpbfmgaaGreatDoor
