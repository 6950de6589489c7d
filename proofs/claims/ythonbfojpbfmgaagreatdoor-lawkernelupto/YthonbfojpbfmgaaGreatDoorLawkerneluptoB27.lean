/- Package codec: encode, of integers. -/
import Derived.Test.YthonbfojpbfmgaaGreatDoorLawkerneluptoB26
import Derived.Test.YthonbfojpbfmgaaGreatDoorLawkerneluptoB25
import Derived.Deep.CutBlock
import Derived.Test.YthonbfojpbfmgaaGreatDoorLawkerneluptoB21
import Derived.Test.YthonbfojpbfmgaaGreatDoorLawkerneluptoB15
import Derived.Test.YthonbfojpbfmgaaGreatDoorLawkerneluptoB14
import Derived.Test.YthonbfojpbfmgaaGreatDoorLawkerneluptoB5
import Derived.Test.YthonbfojpbfmgaaGreatDoorLawkerneluptoB1
import Derived.Deep.CutRange
set_option linter.unusedVariables false
set_option linter.unusedSimpArgs false
set_option linter.unnecessarySimpa false
set_option maxRecDepth 100000
namespace Go.Proofs.YthonbfojpbfmgaaGreatDoor
open Go.RowKit

def enCode (c : Nat) (wd : Int) (vs : List PV) : Int := if payOk c wd vs = true then 0 else 4
def enB (kd c : Nat) (wd : Int) (cs : List C3) : List Nat := ([c, (payW c wd (valsOf cs)).toNat] ++ le8 (bmL (cs.map C3.n))) ++ payB kd c wd (valsOf cs)
set_option maxHeartbeats 4000000 in
theorem encodeI_any (c : Nat) (wd : Int) (hc : 1 ≤ c ∧ c ≤ 5) (hw : isWd c wd = true) (u : Value) (cs : List C3) (w : World) (hu : Rd w u cs.length 3 (cells3 cs)) (hl : cs.length ≤ 65536) (hv : valsOf cs = ((valsOf cs).map Prod.fst).map pI) (hs : sumT (valsOf cs) ≤ 67108864) :
    Calls Tryz.prog 77 #[.iface 68 (.agg #[]), u, .int .i64 c, .int .i64 wd] w fun e w' => EncAns w w' e (enCode c wd (valsOf cs)) (enB 1 c wd cs) := by
  have HSP := hid (splitI_any u cs w hu hl)
  have hvl := valsOf_len cs
  have HPO := hid (fun (v : Value) (w2 : World) (h : Rd w2 v ((valsOf cs).map Prod.fst).length 1 (i64s ((valsOf cs).map Prod.fst))) => payloadI_any c hc wd v ((valsOf cs).map Prod.fst) w2 h (by rw [List.length_map]; omega))
  rw [← hv] at HPO
  have hck : (isCodec 1 c && isWd c wd) = true := by
    rw [hw, Bool.and_true]
    unfold isCodec
    split
    · rfl
    · exact decide_eq_true ⟨by omega, by omega, rfl⟩
  obtain ⟨pw, hpw, hp64⟩ := payW_nat 1 c wd (valsOf cs) hck
  rw [Int.toNat_natCast] at hpw
  have HPB := hid (payB_len 1 c wd (valsOf cs) (by omega) hs (Nat.le_trans (diffP_sum _) hs))
  unfold enB enCode
  rw [hpw] at HPO ⊢
  rw [Int.toNat_natCast]
  obtain ⟨A1, c1, rfl, _, _, _⟩ := hu.form
  generalize payB 1 c wd (valsOf cs) = pb at *
  obtain ⟨ok, hok⟩ : ∃ ok, payOk c wd (valsOf cs) = ok := ⟨_, rfl⟩
  rw [hok] at HPO ⊢
  have HML := hid (bmL_len (cs.map C3.n))
  have HMX := hid (bmL_isBm (cs.map C3.n)).2.1
  rw [List.length_map] at HML
  have hwl : L.nWords 1 cs.length ≤ 65536 := Nat.le_trans (L.nWords_le (by omega)) (by omega)
  rw [← HML.out] at hwl
  generalize bmL (cs.map C3.n) = ws at *
  generalize (valsOf cs).map Prod.fst = xs at *
  generalize cs.length = n at *
  clear hu hv hs hvl hpw hok hck hw
  obtain ⟨R, hR⟩ : ∃ R, ([c, pw] ++ le8 ws) ++ pb = R := ⟨_, rfl⟩
  rw [hR]
  have HRR := hid hR
  clear hR
  have hcu : IntKind.u8.wrap (c : Int) = (c : Int) := by rw [IntKind.wrap_u8]; omega
  have hpu : IntKind.u8.wrap (pw : Int) = (pw : Int) := by rw [IntKind.wrap_u8]; omega
  go_enter Tryz.func77, Tryz.ntmps77
  cases ok
  · simp only [Bool.false_eq_true, if_false]
    go_wp2_with (first
      | (go_at_call 135; refine HSP.out.mono ?_; rintro e w1 ⟨r1, r2, rfl, h1, h2, h3⟩; obtain ⟨A2, c2, rfl, _, _, _⟩ := h1.form; obtain ⟨A3, c3, rfl, _, _, _⟩ := h2.form; have H1 := hid h1; have H2 := hid h2; have H3 := hid h3; clear h1 h2 h3)
      | (go_at_call 136; refine (HPO.out _ w1 H1.out).mono ?_; rintro e w2 hp; obtain ⟨A5, n5, c5, wr5, rfl, h1, h2⟩ := hp.form; have K2 := hid (H3.out.trans (h2.mono H3.out.size)); clear h1 h2 hp))
    go_ret2
    exact ⟨_, rfl, ⟨⟨_, _, _, rfl⟩, fun _ => rfl⟩, fun h => (by cases h), K2.out⟩
  · simp only [if_true]
    go_upto_region 5 with (first
      | (go_at_call 135; refine HSP.out.mono ?_; rintro e w1 ⟨r1, r2, rfl, h1, h2, h3⟩; obtain ⟨A2, c2, rfl, _, _, _⟩ := h1.form; obtain ⟨A3, c3, rfl, _, _, _⟩ := h2.form; have H1 := hid h1; have H2 := hid h2; have H3 := hid h3; clear h1 h2 h3)
      | (go_at_call 136; refine (HPO.out _ w1 H1.out).mono ?_; rintro e w2 hp; obtain ⟨A5, n5, c5, wr5, rfl, h1, h2⟩ := hp.form; obtain ⟨h4, h5⟩ := h1 rfl; subst h4; have K1 := hid h5; have K2 := hid h2; clear h1 h2 h5 hp))
    obtain ⟨bA, bc, hbb⟩ := K1.out.form
    injection hbb with hb1 hb2 hb3
    subst hb1 hb2 hb3
    have HBR := hid (owns_rd K1.out)
    have HNR := hid (H2.out.mono K2.out)
    have HB2 := hid (H3.out.trans (K2.out.mono H3.out.size))
    clear HSP HPO H1 H2 H3 K1 K2
    go_upto_region 6 with fail
    have HW6 := hid ((brefl w2).alloc (Nat.le_refl _) (.cells #[.int .u8 (c : Int), .int .u8 (pw : Int)] 5))
    have HO6 : Hid (OwnB w2.heap.size (w2.alloc (.cells #[.int .u8 (c : Int), .int .u8 (pw : Int)] 5)) (.slice (some ⟨w2.heap.size, 0, none⟩) 2 2) [c, pw]) := hid (own_two w2 _ _)
    have HS6 := hid (show w2.heap.size < (w2.alloc (.cells #[.int .u8 (c : Int), .int .u8 (pw : Int)] 5)).heap.size by simp)
    generalize w2.alloc (.cells #[.int .u8 (c : Int), .int .u8 (pw : Int)] 5) = w6 at *
    have HPA := hid (AppendU64s_any w2.heap.size (.slice (some ⟨w2.heap.size, 0, none⟩) 2 2) (.slice A3 ws.length c3) [c, pw] ws w6 HO6.out (Stay.low HNR.out HW6.out (Nat.le_refl _)) HMX.out HW6.out.size (by simp) (by omega))
    have HLEN : Hid (([c, pw] ++ le8 ws).length = 2 + 8 * ws.length) := hid (by rw [List.length_append, le8_len]; rfl)
    generalize [c, pw] ++ le8 ws = os at *
    have HQ2 := hid (show w2.heap.size ≤ w2.heap.size from Nat.le_refl _)
    generalize hq : w2.heap.size = q at HPA HO6 HS6 ⊢
    have HQ := hid hq
    clear hq
    go_wp2_with (first
      | (go_at_call 134; refine HPA.out.mono ?_; rintro e w7 ⟨r, rfl, h1, h2, h3, h4⟩; obtain ⟨A7, c7, rfl⟩ := h1.form; have L1 := hid h1; have L2 := hid (HW6.out.trans (by rw [HQ.out]; exact h2)); clear h1 h2 h3 h4; have HBR2 := hid (HBR.out.mono L2.out); have HSZ := hid (show q ≤ w7.heap.size by rw [← HQ.out]; exact L2.out.size))
      | (at_builtin; refine wpList_appendM rfl (.tmp 40) (.tmp 41) rfl 5 (.int .u8 0) 1 Tryz.underlying22 Tryz.infoU8 rfl rfl rfl L1.out HSZ.out HBR2.out (oneCell_u8s pb) (by have := HLEN.out; have := HPB.out; unfold maxLen; omega) (by have := HLEN.out; have := HPB.out; omega) ?_; intro v' w' ho hb3; have HFO := hid ho; have HFB := hid hb3; clear ho hb3))
    obtain ⟨A9, c9, rfl, _⟩ := owns_form HFO.out
    go_ret2
    have G2 := hid (HB2.out.trans ((L2.out.trans (by rw [HQ.out]; exact HFB.out)).mono HB2.out.size))
    have G1 : Hid (OwnB w.heap.size w' (.slice A9 (os.length + pb.length) c9) R) := hid (by
      unfold OwnB
      rw [← HRR.out]
      rw [List.length_append, show u8s (os ++ pb) = u8s os ++ u8s pb by simp [u8s]]
      exact owns_low HFO.out (by rw [← HQ.out]; exact HB2.out.size))
    exact ⟨_, rfl, ⟨⟨_, _, _, rfl⟩, fun h => absurd rfl h⟩, fun _ => G1.out, G2.out⟩
end Go.Proofs.YthonbfojpbfmgaaGreatDoor

/- Package codec: encode, of strings. -/
set_option linter.unusedVariables false
set_option linter.unusedSimpArgs false
set_option linter.unnecessarySimpa false
set_option maxRecDepth 100000
namespace Go.Proofs.YthonbfojpbfmgaaGreatDoor
open Go.RowKit

set_option maxHeartbeats 4000000 in
theorem encodeS_any (c : Nat) (wd : Int) (hc : 1 ≤ c ∧ c ≤ 3) (hw : isWd c wd = true) (u : Value) (cs : List C3) (w : World) (hu : Rd w u cs.length 3 (cells3 cs)) (hl : cs.length ≤ 65536) (hv : valsOf cs = ((valsOf cs).map Prod.snd).map pS) (hs : sumT (valsOf cs) ≤ 67108864) :
    Calls Tryz.prog 76 #[.iface 66 (.agg #[]), u, .int .i64 c, .int .i64 wd] w fun e w' => EncAns w w' e (enCode c wd (valsOf cs)) (enB 2 c wd cs) := by
  have HSP := hid (splitS_any u cs w hu hl)
  have hvl := valsOf_len cs
  have HPO := hid (fun (v : Value) (w2 : World) (h : Rd w2 v ((valsOf cs).map Prod.snd).length 1 (strs ((valsOf cs).map Prod.snd))) => payloadS_any c hc wd v ((valsOf cs).map Prod.snd) w2 h (by rw [List.length_map]; omega) hs)
  rw [← hv] at HPO
  have hck : (isCodec 2 c && isWd c wd) = true := by
    rw [hw, Bool.and_true]
    unfold isCodec
    split
    · rfl
    · omega
  obtain ⟨pw, hpw, hp64⟩ := payW_nat 2 c wd (valsOf cs) hck
  rw [Int.toNat_natCast] at hpw
  have HPB := hid (payB_len 2 c wd (valsOf cs) (by omega) hs (Nat.le_trans (diffP_sum _) hs))
  unfold enB enCode
  rw [hpw] at HPO ⊢
  rw [Int.toNat_natCast]
  obtain ⟨A1, c1, rfl, _, _, _⟩ := hu.form
  generalize payB 2 c wd (valsOf cs) = pb at *
  obtain ⟨ok, hok⟩ : ∃ ok, payOk c wd (valsOf cs) = ok := ⟨_, rfl⟩
  rw [hok] at HPO ⊢
  have HML := hid (bmL_len (cs.map C3.n))
  have HMX := hid (bmL_isBm (cs.map C3.n)).2.1
  rw [List.length_map] at HML
  have hwl : L.nWords 1 cs.length ≤ 65536 := Nat.le_trans (L.nWords_le (by omega)) (by omega)
  rw [← HML.out] at hwl
  generalize bmL (cs.map C3.n) = ws at *
  generalize (valsOf cs).map Prod.snd = xs at *
  generalize cs.length = n at *
  clear hu hv hs hvl hpw hok hck hw
  obtain ⟨R, hR⟩ : ∃ R, ([c, pw] ++ le8 ws) ++ pb = R := ⟨_, rfl⟩
  rw [hR]
  have HRR := hid hR
  clear hR
  have hcu : IntKind.u8.wrap (c : Int) = (c : Int) := by rw [IntKind.wrap_u8]; omega
  have hpu : IntKind.u8.wrap (pw : Int) = (pw : Int) := by rw [IntKind.wrap_u8]; omega
  go_enter Tryz.func76, Tryz.ntmps76
  cases ok
  · simp only [Bool.false_eq_true, if_false]
    go_wp2_with (first
      | (go_at_call 132; refine HSP.out.mono ?_; rintro e w1 ⟨r1, r2, rfl, h1, h2, h3⟩; obtain ⟨A2, c2, rfl, _, _, _⟩ := h1.form; obtain ⟨A3, c3, rfl, _, _, _⟩ := h2.form; have H1 := hid h1; have H2 := hid h2; have H3 := hid h3; clear h1 h2 h3)
      | (go_at_call 133; refine (HPO.out _ w1 H1.out).mono ?_; rintro e w2 hp; obtain ⟨A5, n5, c5, wr5, rfl, h1, h2⟩ := hp.form; have K2 := hid (H3.out.trans (h2.mono H3.out.size)); clear h1 h2 hp))
    go_ret2
    exact ⟨_, rfl, ⟨⟨_, _, _, rfl⟩, fun _ => rfl⟩, fun h => (by cases h), K2.out⟩
  · simp only [if_true]
    go_upto_region 5 with (first
      | (go_at_call 132; refine HSP.out.mono ?_; rintro e w1 ⟨r1, r2, rfl, h1, h2, h3⟩; obtain ⟨A2, c2, rfl, _, _, _⟩ := h1.form; obtain ⟨A3, c3, rfl, _, _, _⟩ := h2.form; have H1 := hid h1; have H2 := hid h2; have H3 := hid h3; clear h1 h2 h3)
      | (go_at_call 133; refine (HPO.out _ w1 H1.out).mono ?_; rintro e w2 hp; obtain ⟨A5, n5, c5, wr5, rfl, h1, h2⟩ := hp.form; obtain ⟨h4, h5⟩ := h1 rfl; subst h4; have K1 := hid h5; have K2 := hid h2; clear h1 h2 h5 hp))
    obtain ⟨bA, bc, hbb⟩ := K1.out.form
    injection hbb with hb1 hb2 hb3
    subst hb1 hb2 hb3
    have HBR := hid (owns_rd K1.out)
    have HNR := hid (H2.out.mono K2.out)
    have HB2 := hid (H3.out.trans (K2.out.mono H3.out.size))
    clear HSP HPO H1 H2 H3 K1 K2
    go_upto_region 6 with fail
    have HW6 := hid ((brefl w2).alloc (Nat.le_refl _) (.cells #[.int .u8 (c : Int), .int .u8 (pw : Int)] 5))
    have HO6 : Hid (OwnB w2.heap.size (w2.alloc (.cells #[.int .u8 (c : Int), .int .u8 (pw : Int)] 5)) (.slice (some ⟨w2.heap.size, 0, none⟩) 2 2) [c, pw]) := hid (own_two w2 _ _)
    have HS6 := hid (show w2.heap.size < (w2.alloc (.cells #[.int .u8 (c : Int), .int .u8 (pw : Int)] 5)).heap.size by simp)
    generalize w2.alloc (.cells #[.int .u8 (c : Int), .int .u8 (pw : Int)] 5) = w6 at *
    have HPA := hid (AppendU64s_any w2.heap.size (.slice (some ⟨w2.heap.size, 0, none⟩) 2 2) (.slice A3 ws.length c3) [c, pw] ws w6 HO6.out (Stay.low HNR.out HW6.out (Nat.le_refl _)) HMX.out HW6.out.size (by simp) (by omega))
    have HLEN : Hid (([c, pw] ++ le8 ws).length = 2 + 8 * ws.length) := hid (by rw [List.length_append, le8_len]; rfl)
    generalize [c, pw] ++ le8 ws = os at *
    have HQ2 := hid (show w2.heap.size ≤ w2.heap.size from Nat.le_refl _)
    generalize hq : w2.heap.size = q at HPA HO6 HS6 ⊢
    have HQ := hid hq
    clear hq
    go_wp2_with (first
      | (go_at_call 134; refine HPA.out.mono ?_; rintro e w7 ⟨r, rfl, h1, h2, h3, h4⟩; obtain ⟨A7, c7, rfl⟩ := h1.form; have L1 := hid h1; have L2 := hid (HW6.out.trans (by rw [HQ.out]; exact h2)); clear h1 h2 h3 h4; have HBR2 := hid (HBR.out.mono L2.out); have HSZ := hid (show q ≤ w7.heap.size by rw [← HQ.out]; exact L2.out.size))
      | (at_builtin; refine wpList_appendM rfl (.tmp 40) (.tmp 41) rfl 5 (.int .u8 0) 1 Tryz.underlying22 Tryz.infoU8 rfl rfl rfl L1.out HSZ.out HBR2.out (oneCell_u8s pb) (by have := HLEN.out; have := HPB.out; unfold maxLen; omega) (by have := HLEN.out; have := HPB.out; omega) ?_; intro v' w' ho hb3; have HFO := hid ho; have HFB := hid hb3; clear ho hb3))
    obtain ⟨A9, c9, rfl, _⟩ := owns_form HFO.out
    go_ret2
    have G2 := hid (HB2.out.trans ((L2.out.trans (by rw [HQ.out]; exact HFB.out)).mono HB2.out.size))
    have G1 : Hid (OwnB w.heap.size w' (.slice A9 (os.length + pb.length) c9) R) := hid (by
      unfold OwnB
      rw [← HRR.out]
      rw [List.length_append, show u8s (os ++ pb) = u8s os ++ u8s pb by simp [u8s]]
      exact owns_low HFO.out (by rw [← HQ.out]; exact HB2.out.size))
    exact ⟨_, rfl, ⟨⟨_, _, _, rfl⟩, fun h => absurd rfl h⟩, fun _ => G1.out, G2.out⟩
end Go.Proofs.YthonbfojpbfmgaaGreatDoor

/- Package codec: Encode. -/
set_option linter.unusedVariables false
set_option linter.unusedSimpArgs false
set_option linter.unnecessarySimpa false
set_option maxRecDepth 100000
namespace Go.Proofs.YthonbfojpbfmgaaGreatDoor
open Go.RowKit

theorem isCodec_kind {k c : Int} (h : isCodec k c = true) : isKind k = true := by
  unfold isCodec at h
  split at h
  · exact h
  · simp only [decide_eq_true_eq] at h
    unfold isKind; exact decide_eq_true (.inl h.2.2)
theorem encBad_eq (k c wd : Int) (cs : List C3) : encBad k c wd cs = !(areC k cs && (isCodec k c && isWd c wd)) := by
  unfold encBad areC
  cases hc : isCodec k c with
  | false => simp
  | true =>
    rw [isCodec_kind hc]
    unfold isRows
    cases isWd c wd with
    | false => simp
    | true =>
      by_cases h : 65536 < cs.length
      · rw [decide_eq_true h, decide_eq_false (by omega)]; simp
      · rw [decide_eq_false h, decide_eq_true (by omega)]; simp
theorem vals_I (cs : List C3) (h : cs.all (ofK 1) = true) : valsOf cs = ((valsOf cs).map Prod.fst).map pI := by
  rw [List.map_map]
  refine ((List.map_id _).symm.trans (List.map_congr_left (fun x hx => ?_)))
  unfold valsOf at hx
  obtain ⟨c, hc, rfl⟩ := List.mem_map.1 hx
  obtain ⟨h1, h2⟩ := List.mem_filter.1 hc
  have h3 := List.all_eq_true.1 h c h1
  unfold ofK at h3
  rw [if_neg (by simpa using h2), if_pos rfl] at h3
  show (c.i, c.s) = (c.i, ByteArray.empty)
  refine pv_ext rfl ?_
  show c.s.toList = _
  rw [List.isEmpty_iff] at h3
  rw [h3, ByteArray.toList_eq]; rfl
theorem vals_S (cs : List C3) (h : cs.all (ofK 2) = true) : valsOf cs = ((valsOf cs).map Prod.snd).map pS := by
  rw [List.map_map]
  refine ((List.map_id _).symm.trans (List.map_congr_left (fun x hx => ?_)))
  unfold valsOf at hx
  obtain ⟨c, hc, rfl⟩ := List.mem_map.1 hx
  obtain ⟨h1, h2⟩ := List.mem_filter.1 hc
  have h3 := List.all_eq_true.1 h c h1
  unfold ofK at h3
  rw [if_neg (by simpa using h2), if_neg (by decide)] at h3
  simp only [decide_eq_true_eq] at h3
  show (c.i, c.s) = (0, c.s)
  rw [h3.2.1]
set_option maxHeartbeats 4000000 in
theorem Encode_any (k c wd : Int) (u : Value) (cs : List C3) (w : World) (hu : Rd w u cs.length 3 (cells3 cs)) (hl : cs.length ≤ 1048576) (hs : sumT (valsOf cs) ≤ 67108864) :
    Calls Tryz.prog 44 #[.int .i64 k, u, .int .i64 c, .int .i64 wd] w fun e w' => EncAns w w' e (encCode k c wd cs) (encB k c wd cs) := by
  have HU := hid hu
  have HS := hid hs
  have HAC := hid (AreCells_any k u cs w hu hl)
  have HIC := hid (fun (w2 : World) => IsCodec_any k c w2)
  have HIW := hid (fun (w2 : World) => IsWidth_any c wd w2)
  obtain ⟨A1, c1, rfl, _, _, _⟩ := hu.form
  clear hu hs
  obtain ⟨R, hR⟩ : ∃ R, encB k c wd cs = R := ⟨_, rfl⟩
  obtain ⟨code, hcode⟩ : ∃ code, encCode k c wd cs = code := ⟨_, rfl⟩
  have HRR := hid hR
  have HCO := hid hcode
  rw [hR, hcode]
  clear hR hcode
  unfold encCode at HCO
  rw [encBad_eq] at HCO
  have HYS : Hid (areC k cs = true → isCodec k c = true → isWd c wd = true → cs.length ≤ 65536 ∧ cs.all (ofK k) = true) := hid (fun h1 h2 h3 => by
    unfold areC at h1
    simp only [Bool.and_eq_true] at h1
    refine ⟨?_, h1.2⟩
    have h4 := h1.1.2
    unfold isRows at h4
    simp only [decide_eq_true_eq] at h4; omega)
  obtain ⟨ac, hac⟩ : ∃ ac, areC k cs = ac := ⟨_, rfl⟩
  obtain ⟨ic, hic⟩ : ∃ ic, isCodec k c = ic := ⟨_, rfl⟩
  obtain ⟨iw, hiw⟩ : ∃ iw, isWd c wd = iw := ⟨_, rfl⟩
  rw [hac] at HAC
  rw [hic] at HIC
  rw [hiw] at HIW
  rw [hac, hic, hiw] at HCO HYS
  have HW1 := hid hiw
  have HC1 := hid hic
  clear hac hic hiw
  cases ac
  · have HNO := hid (show code = 5 by rw [← HCO.out]; rfl)
    clear HCO HYS
    go_enter Tryz.func44, Tryz.ntmps44
    go_wp2_with (go_at_call 73; refine HAC.out.mono ?_; rintro e w1 ⟨rfl, h1⟩; have H1 := hid h1; clear h1)
    go_ret2
    exact encAns_no HNO.out (by decide) H1.out
  cases ic
  · have HNO := hid (show code = 5 by rw [← HCO.out]; rfl)
    clear HCO HYS
    go_enter Tryz.func44, Tryz.ntmps44
    go_wp2_with (first
      | (go_at_call 73; refine HAC.out.mono ?_; rintro e w1 ⟨rfl, h1⟩; have H1 := hid h1; clear h1)
      | (go_at_call 74; refine (HIC.out _).mono ?_; rintro e w2 ⟨rfl, hw⟩; replace hw := hw.symm; subst hw))
    go_ret2
    exact encAns_no HNO.out (by decide) H1.out
  cases iw
  · have HNO := hid (show code = 5 by rw [← HCO.out]; rfl)
    clear HCO HYS
    go_enter Tryz.func44, Tryz.ntmps44
    go_wp2_with (first
      | (go_at_call 73; refine HAC.out.mono ?_; rintro e w1 ⟨rfl, h1⟩; have H1 := hid h1; clear h1)
      | (go_at_call 74; refine (HIC.out _).mono ?_; rintro e w2 ⟨rfl, hw⟩; replace hw := hw.symm; subst hw)
      | (go_at_call 75; refine (HIW.out _).mono ?_; rintro e w2 ⟨rfl, hw⟩; replace hw := hw.symm; subst hw))
    go_ret2
    exact encAns_no HNO.out (by decide) H1.out
  obtain ⟨hl9, hall⟩ := HYS.out rfl rfl rfl
  obtain ⟨kd, cn, rfl, rfl, hkd, hc1, hc5⟩ := isCodec_nat k c wd (by rw [HC1.out, HW1.out]; rfl)
  unfold encB at HRR
  simp only [Int.toNat_natCast] at HRR HCO
  rcases hkd with rfl | rfl
  · have HEN := hid (fun (w2 : World) (h : Below w.heap.size w w2) => encodeI_any cn wd ⟨hc1, hc5⟩ HW1.out (.slice A1 cs.length c1) cs w2 (HU.out.mono h) hl9 (vals_I cs hall) HS.out)
    have hen : enB 1 cn wd cs = R := HRR.out
    have hec : enCode cn wd (valsOf cs) = code := HCO.out
    rw [hen, hec] at HEN
    clear HYS HCO HRR hall hen hec
    go_enter Tryz.func44, Tryz.ntmps44
    go_wp2_with (first
      | (go_at_call 73; refine HAC.out.mono ?_; rintro e w1 ⟨rfl, h1⟩; have H1 := hid h1; clear h1)
      | (go_at_call 74; refine (HIC.out _).mono ?_; rintro e w2 ⟨rfl, hw⟩; replace hw := hw.symm; subst hw)
      | (go_at_call 75; refine (HIW.out _).mono ?_; rintro e w2 ⟨rfl, hw⟩; replace hw := hw.symm; subst hw)
      | (go_at_call 77; refine (HEN.out _ H1.out).mono ?_; rintro e w3 ⟨r, rfl, ⟨⟨A5, n5, c5, rfl⟩, hz⟩, h1, h2⟩; have LZ := hid hz; have L1 := hid h1; have L2 := hid h2; clear h1 h2 hz))
    go_ret2
    exact ⟨_, rfl, ⟨⟨_, _, _, rfl⟩, LZ.out⟩, fun h => owns_low (L1.out h) H1.out.size, H1.out.trans (L2.out.mono H1.out.size)⟩
  · have hc3 : cn ≤ 3 := by
      have h := HC1.out
      unfold isCodec at h
      split at h
      · omega
      · simp only [decide_eq_true_eq] at h; omega
    have HEN := hid (fun (w2 : World) (h : Below w.heap.size w w2) => encodeS_any cn wd ⟨hc1, hc3⟩ HW1.out (.slice A1 cs.length c1) cs w2 (HU.out.mono h) hl9 (vals_S cs hall) HS.out)
    have hen : enB 2 cn wd cs = R := HRR.out
    have hec : enCode cn wd (valsOf cs) = code := HCO.out
    rw [hen, hec] at HEN
    clear HYS HCO HRR hall hen hec
    go_enter Tryz.func44, Tryz.ntmps44
    go_wp2_with (first
      | (go_at_call 73; refine HAC.out.mono ?_; rintro e w1 ⟨rfl, h1⟩; have H1 := hid h1; clear h1)
      | (go_at_call 74; refine (HIC.out _).mono ?_; rintro e w2 ⟨rfl, hw⟩; replace hw := hw.symm; subst hw)
      | (go_at_call 75; refine (HIW.out _).mono ?_; rintro e w2 ⟨rfl, hw⟩; replace hw := hw.symm; subst hw)
      | (go_at_call 76; refine (HEN.out _ H1.out).mono ?_; rintro e w3 ⟨r, rfl, ⟨⟨A5, n5, c5, rfl⟩, hz⟩, h1, h2⟩; have LZ := hid hz; have L1 := hid h1; have L2 := hid h2; clear h1 h2 hz))
    go_ret2
    exact ⟨_, rfl, ⟨⟨_, _, _, rfl⟩, LZ.out⟩, fun h => owns_low (L1.out h) H1.out.size, H1.out.trans (L2.out.mono H1.out.size)⟩
end Go.Proofs.YthonbfojpbfmgaaGreatDoor

/- LawKernel: asked. -/
set_option linter.unusedVariables false
set_option linter.unusedSimpArgs false
set_option linter.unnecessarySimpa false
set_option maxRecDepth 100000
namespace Go.Proofs.YthonbfojpbfmgaaGreatDoor
open Go.RowKit

theorem row_rd3 {w : World} {g : Nat} {e : TypeId} {cs : List C3} (h : Row w g e (cells3 cs)) (hl : cs.length ≤ maxLen) : Rd w (.slice (some ⟨g, 0, none⟩) cs.length cs.length) cs.length 3 (cells3 cs) := by
  refine ⟨by rw [cells3_length], .inr ⟨g, 0, cs.length, rfl, Nat.le_refl _, hl, ?_⟩⟩
  intro i v hv
  rw [Nat.zero_add, h.cell]; exact hv
theorem argsK_cells (op : Int) (a b : C3) : cells3 (argsK op a b) = if op = 7 ∨ op = 8 then [.bool a.n, .int .i64 a.i, .string a.s, .bool b.n, .int .i64 b.i, .string b.s] else [.bool a.n, .int .i64 a.i, .string a.s] := by
  unfold argsK
  split <;> rfl
set_option maxHeartbeats 16000000 in
theorem asked_any (kind op : Int) (pick : Nat) (u : Value) (cs : List C3) (a b : C3) (w : World) (hT : Tab w) (hu : Rd w u cs.length 3 (cells3 cs)) (hk : isKind kind = true) (ho : 1 ≤ op ∧ op ≤ 8) (hl : cs.length ≤ 65536) (hc : cs.all (ofK kind) = true)
    (hI : ∀ x ∈ cs, okI x.i) (hs : sumT (valsOf cs) ≤ 1048576) (ha : isVal kind a = true) (hb : isVal kind b = true) (hai : okI a.i) (hbi : okI b.i) :
    Calls Tryz.prog 24 #[.int .i64 kind, u, .int .i64 pick, .int .i64 op, a.v, b.v] w fun e w' => e = .returned (.bool true) ∧ Below w.heap.size w w' := by
  have hfit := fit_ok (pick := pick) hk hl hc
  obtain ⟨fc, hfc⟩ : ∃ fc, fitC kind cs.length pick = fc := ⟨_, rfl⟩
  have HFT := hid (fun (w2 : World) => fitting_any kind cs.length pick w2)
  rw [hfc] at HFT hfit
  obtain ⟨cd, wd⟩ := fc
  simp only at HFT hfit
  have HEN := hid (fun (w2 : World) (h : Below w.heap.size w w2) => Encode_any kind cd wd u cs w2 (hu.mono h) (by omega) (by omega))
  obtain ⟨hB, hBl⟩ := encB_bytes hfit hs
  obtain ⟨d1, d2, d3⟩ := decode_back hfit hI (by omega)
  rw [hfit] at HEN
  obtain ⟨B, hBB⟩ : ∃ B, encB kind cd wd cs = B := ⟨_, rfl⟩
  rw [hBB] at HEN hB hBl d1 d3
  obtain ⟨z0, z2, z1, l2, l1, zb⟩ := ask_bits (a := a) (b := b) hk ho ha hb hl hc d1 d3
  have hargI : ∀ c ∈ argsK op a b, okI c.i := by
    unfold argsK
    intro c hm
    split at hm
    · simp at hm; rcases hm with rfl | rfl
      · exact hai
      · exact hbi
    · simp at hm; subst hm; exact hai
  have hargL : (argsK op a b).length ≤ 2 := by unfold argsK; split <;> simp
  have HFI := hid (fun (w2 : World) (v g : Value) (h : Below w.heap.size w w2) (h1 : Rd w2 v B.length 1 (u8s B)) (h2 : Rd w2 g (argsK op a b).length 3 (cells3 (argsK op a b))) => FilterM_any w2 v g B kind cs.length op 0 (argsK op a b) (hT.mono h hT.lt) h1 hB hBl h2 (by omega) hargI)
  unfold FilDoc at HFI
  rw [z0] at HFI
  generalize rfZ kind cs.length op 0 (argsK op a b) B 2 = Z2 at *
  generalize rfZ kind cs.length op 0 (argsK op a b) B 1 = Z1 at *
  rw [z2, z1] at HFI
  have HHD := hid (fun (c : C3) (w2 : World) => holds_any op c a b w2 ho)
  have HZB := hid zb; have HL2 := hid l2; have HL1 := hid l1; have HZ2 := hid z2; have HZ1 := hid z1
  have HUU := hid hu
  obtain ⟨A1, c1, rfl, _, _, _⟩ := hu.form
  clear hT hu hk hc hI hs ha hb hai hbi hfit hfc hB d1 d2 d3 z0 z2 z1 l2 l1 zb hargI
  obtain ⟨n, hn⟩ : ∃ n, cs.length = n := ⟨_, rfl⟩
  have HN := hid hn
  simp only [hn] at HFT HEN HFI HZB HZ2 HZ1 HUU hl ⊢
  clear hn
  obtain ⟨nw, hnw⟩ : ∃ nw, (n + 63) / 64 = nw := ⟨_, rfl⟩
  rw [hnw] at HFI HZ2 HZ1
  have hnwI : ((n : Int) + 63) / 64 = (nw : Int) := by omega
  have HAK : Hid (cells3 (argsK op a b) = if op = 7 ∨ op = 8 then [.bool a.n, .int .i64 a.i, .string a.s, .bool b.n, .int .i64 b.i, .string b.s] else [.bool a.n, .int .i64 a.i, .string a.s]) := hid (argsK_cells op a b)
  have HAL : Hid ((argsK op a b).length = if op = 7 ∨ op = 8 then 2 else 1) := hid (by unfold argsK; split <;> rfl)
  have HRR := hid (fun (w2 : World) (g : Nat) (h : Row w2 g 42 (cells3 (argsK op a b))) => row_rd3 h (by unfold maxLen; omega))
  clear hargL
  generalize argsK op a b = AR at *
  obtain ⟨an, ai, az⟩ := a
  obtain ⟨bn, bi, bs⟩ := b
  unfold C3.v
  simp only at HAK ⊢
  obtain ⟨q1, q2, q3⟩ := rows2k (u := w) (X := #[.bool an, .int .i64 ai, .string az]) (Y := #[.bool bn, .int .i64 bi, .string bs]) (eX := 42) (eY := 42)
  have HRA := hid q1; have HRB := hid q2; have HB0 := hid q3
  clear q1 q2 q3
  go_enter Tryz.func24, Tryz.ntmps24
  go_upto_region 1 with fail
  generalize (w.alloc (.cells #[.bool an, .int .i64 ai, .string az] 42)).alloc (.cells #[.bool bn, .int .i64 bi, .string bs] 42) = w0 at *
  have hsz0 := HB0.out.size
  have hlt0 : w.heap.size + 1 < w0.heap.size := HRB.out.lt
  go_upto_region 3 with (first
    | (go_at_call 43; refine (HFT.out _).mono ?_; rintro e w1 ⟨rfl, hw⟩; replace hw := hw.symm; subst hw)
    | (go_at_call 44; refine (HEN.out _ HB0.out).mono ?_; rintro e w2 ⟨r1, rfl, ⟨⟨A2, n2, c2, rfl⟩, _⟩, h1, h2⟩; have HOB := hid (h1 rfl); have HB2 := hid (HB0.out.trans (h2.mono HB0.out.size)); have HRA2 := hid (HRA.out.mono h2); have HRB2 := hid (HRB.out.mono h2); have HS2 := hid h2.size; clear h1 h2))
  obtain ⟨bA, bc, hbb⟩ := HOB.out.form
  injection hbb with hb1 hb2 hb3
  subst hb1 hb2 hb3
  have HBR := hid (owns_rd HOB.out)
  clear HOB HRA HRB
  obtain ⟨a0, a1, a2⟩ := cell3 HRA2.out
  obtain ⟨b0, b1, b2⟩ := cell3 HRB2.out
  have hs2 := HS2.out
  go_upto_region 4 with fail
  obtain ⟨q1, q2, q3⟩ := rows2k (u := w2) (X := #[.bool an, .int .i64 ai, .string az]) (Y := #[.int .i64 op, .int .i64 0, .slice (some ⟨w2.heap.size, 0, none⟩) 1 1]) (eX := 42) (eY := 25)
  have HRO3 := hid q1; have HRM3 := hid q2; have HB23 := hid q3
  have HRA3 := hid (HRA2.out.mono q3)
  have HRB3 := hid (HRB2.out.mono q3)
  have HRA2K := HRA2; have HRB2K := HRB2
  clear q1 q2 q3 a0 a1 a2 b0 b1 b2 HRA2 HRB2
  generalize (w2.alloc (.cells #[.bool an, .int .i64 ai, .string az] 42)).alloc (.cells #[.int .i64 op, .int .i64 0, .slice (some ⟨w2.heap.size, 0, none⟩) 1 1] 25) = w3 at *
  have hgm : w2.heap.size + 1 < w3.heap.size := HRM3.out.lt
  obtain ⟨gm, hgme⟩ : ∃ gm, w2.heap.size + 1 = gm := ⟨_, rfl⟩
  rw [hgme] at HRM3 hgm ⊢
  obtain ⟨a0, a1, a2⟩ := cell3 HRA3.out
  obtain ⟨b0, b1, b2⟩ := cell3 HRB3.out
  obtain ⟨q, hq⟩ : ∃ q, decide (op = 7 ∨ op = 8) = q := ⟨_, rfl⟩
  have HQ := hid hq
  clear hq
  go_cut [49] from 44 to 48 (fun s49 wc => s49 = .bool q ∧ wc = w3)
  case first =>
    by_cases h7 : op = 7
    · subst h7
      obtain rfl : q = true := by rw [← HQ.out]; simp
      go_wp2_with fail
      go_meet
      exact ⟨rfl, rfl⟩
    · have e7 : (op == 7) = false := by simp [h7]
      obtain rfl : q = (op == 8) := by rw [← HQ.out]; simp [h7, Bool.beq_eq_decide_eq]
      go_wp2_with fail
      go_meet
      exact ⟨rfl, rfl⟩
  case rest =>
  obtain ⟨rfl, hw⟩ := hcut
  replace hw := hw.symm
  subst hw
  go_upto_if 49 with fail
  go_cut [17] from 50 to 53 (fun s17 wc => s17 = .pointer (some ⟨gm, 0, none⟩) ∧ ∃ ga : Nat, Hid (Row wc gm 25 [.int .i64 op, .int .i64 0, .slice (some ⟨ga, 0, none⟩) AR.length AR.length]) ∧ Hid (Row wc ga 42 (cells3 AR)) ∧ Hid (Below w2.heap.size w2 wc))
  case first =>
    cases q
    · have hn : ¬ (op = 7 ∨ op = 8) := of_decide_eq_false HQ.out
      have hal := HAL.out
      have hak := HAK.out
      rw [if_neg hn] at hal hak
      have HAL2 := hid hal; have HAK2 := hid hak
      clear hal hak HAL HAK
      go_wp2_with fail
      go_meet
      exact ⟨rfl, w2.heap.size, hid (by rw [HAL2.out]; exact HRM3.out), hid (by rw [HAK2.out]; exact HRO3.out), HB23⟩
    · have hn : op = 7 ∨ op = 8 := of_decide_eq_true HQ.out
      have hal := HAL.out
      have hak := HAK.out
      rw [if_pos hn] at hal hak
      have HAL2 := hid hal; have HAK2 := hid hak
      clear hal hak HAL HAK
      have HZN := hid ((brefl w3).alloc (Nat.le_refl _) (.cells #[.bool an, .int .i64 ai, .string az, .bool bn, .int .i64 bi, .string bs] 42))
      have HMN := hid (HRM3.out.mono HZN.out)
      obtain ⟨m0, m1, m2⟩ := cell3 HMN.out
      have f2 := HMN.out.frozen 2
      go_wp2_with fail
      go_meet
      have hz : (w3.setCell ⟨gm, 2, none⟩ (.slice (some ⟨w3.heap.size, 0, none⟩) 2 2)).heap.size = w3.heap.size := by simp
      refine ⟨rfl, w3.heap.size, hid ?_, hid ?_, hid ?_⟩
      · rw [HAL2.out]
        exact (HRM3.out.set 2 _).mono ((brefl _).alloc (Nat.le_refl _) _)
      · rw [HAK2.out]
        have key : ∀ (u : World) (X : Array Value) (e : TypeId), u.heap.size = w3.heap.size → Row (u.alloc (.cells X e)) w3.heap.size e X.toList := by
          intro u X e h
          rw [← h]
          unfold Row; rw [heap_alloc_new]
        exact key _ _ _ hz
      · exact (below_set HB23.out gm 2 _ (by omega)).alloc (by rw [hz]; omega) _
  case rest =>
    obtain ⟨rfl, ga, HRM, HRG, HB2c⟩ := hcut
    have HBc := hid (HB2.out.trans (HB2c.out.mono HB2.out.size))
    have HBRc := hid (HBR.out.mono HB2c.out)
    have HGR := hid (HRR.out wc ga HRG.out)
    have HFX := hid (HFI.out wc _ _ HBc.out HBRc.out HGR.out)
    have hw2c := HB2c.out.size
    have HRAc : Hid (Row wc w.heap.size 42 [.bool an, .int .i64 ai, .string az]) := hid (HRA2K.out.mono HB2c.out)
    have HRBc : Hid (Row wc (w.heap.size + 1) 42 [.bool bn, .int .i64 bi, .string bs]) := hid (HRB2K.out.mono HB2c.out)
    clear HRA3 HRB3 HRO3 HRM3 HB23 HFI HRR HBR HBRc HRG HGR HQ HAL HAK HRA2K HRB2K a0 a1 a2 b0 b1 b2
    obtain ⟨m0, m1, m2⟩ := cell3 HRM.out
    go_upto_region 7 with (go_at_call 9; refine HFX.out.mono ?_; rintro e w4 ⟨tv, uv, rfl, ho1, ho2, _, hb4⟩; have HO1 := hid (owns_rd ho1); have HO2 := hid (owns_rd ho2); have HB4 := hid hb4; obtain ⟨T1, e1, rfl, _⟩ := owns_form ho1; obtain ⟨U1, e2, rfl, _⟩ := owns_form ho2; clear ho1 ho2 hb4)
    have HA5 := hid ((brefl w4).alloc (Nat.le_refl _) (.cells #[.slice T1 nw e1, .slice U1 nw e2] 30))
    have HRP5 : Hid (Row (w4.alloc (.cells #[.slice T1 nw e1, .slice U1 nw e2] 30)) w4.heap.size 30 [.slice T1 nw e1, .slice U1 nw e2]) := hid (by unfold Row; rw [heap_alloc_new])
    have HB5 := hid (bthen HB4.out HA5.out)
    have HBW5 := hid (HBc.out.trans (HB5.out.mono HBc.out.size))
    have HRA5 := hid (HRAc.out.mono HB5.out)
    have HRB5 := hid (HRBc.out.mono HB5.out)
    have HO15 := hid (HO1.out.mono HA5.out)
    have HO25 := hid (HO2.out.mono HA5.out)
    have hsz5 := HB5.out.size
    clear m0 m1 m2 HRM HFX HRAc HRBc HO1 HO2 HB4 HA5 HB5 HBc HB2c
    generalize w4.alloc (.cells #[.slice T1 nw e1, .slice U1 nw e2] 30) = w5 at *
    generalize w4.heap.size = gp at *
    obtain ⟨p0, p1⟩ := cellP HRP5.out
    have en : ((nw : Int) != (nw : Int)) = false := by simp
    go_upto_region 9 with fail
    clear p0 p1 en
    have HNW := hid hnw
    clear hnwI hnw
    go_wp2_with fail
    go_loopw [90] (fun i wr => ∃ t : Nat, t ≤ n ∧ i = .int .i64 t ∧ Hid (Below w5.heap.size w5 wr)) (fun i _ => n - (intOf i).toNat)
    case atStart => exact ⟨0, by omega, rfl, hid (brefl w5)⟩
    case round =>
      obtain ⟨t, ht, rfl, HB⟩ := hrel
      have HBF := hid (HBW5.out.trans (HB.out.mono HBW5.out.size))
      by_cases hlt : t < n
      · obtain ⟨b, o, rfl, hs⟩ := (HUU.out.mono HBF.out).at3 (by omega)
        obtain ⟨c0, c1', c2'⟩ := hs t (by rw [HN.out]; exact hlt)
        obtain ⟨zb2, zb1⟩ := HZB.out t hlt
        have HHC := hid (fun (w2 : World) => HHD.out (cs.getD t C3.df) w2)
        clear hs
        generalize cs.getD t C3.df = x at *
        obtain ⟨xn, xi, xs⟩ := x
        unfold C3.v at HHC
        simp only at c0 c1' c2' zb2 zb1 HHC
        generalize hldB op ⟨xn, xi, xs⟩ ⟨an, ai, az⟩ ⟨bn, bi, bs⟩ = hv at *
        unfold bitOf at zb2 zb1
        obtain ⟨d, hd⟩ : ∃ d, t / 64 = d := ⟨_, rfl⟩
        obtain ⟨r, hr⟩ : ∃ r, t % 64 = r := ⟨_, rfl⟩
        have hd' : (t : Int) / 64 = (d : Int) := by omega
        have hr' : (t : Int) % 64 = (r : Int) := by omega
        have hr64 : r < 64 := by omega
        have hdn : d < nw := by have := HNW.out; omega
        rw [hd, hr] at zb2 zb1
        clear hd hr
        have HBA := hid ((brefl wr).alloc (Nat.le_refl _) (.cells #[.bool xn, .int .i64 xi, .string xs] 42))
        have HBB := hid (bthen HB.out HBA.out)
        obtain ⟨bt, ot, rfl, hst⟩ := (HO15.out.mono HBB.out).at (by omega)
        obtain ⟨bu, ou, rfl, hsu⟩ := (HO25.out.mono HBB.out).at (by omega)
        have y2 := hst.word d (by rw [HZ2.out]; exact hdn)
        have y1 := hsu.word d (by rw [HZ1.out]; exact hdn)
        have v2 : Z2.getD d 0 < 18446744073709551616 := HL2.out _ (by simp [List.getD, List.getElem?_eq_getElem (show d < Z2.length by rw [HZ2.out]; exact hdn)])
        have v1 : Z1.getD d 0 < 18446744073709551616 := HL1.out _ (by simp [List.getD, List.getElem?_eq_getElem (show d < Z1.length by rw [HZ1.out]; exact hdn)])
        have t2 := bit_test (Z2.getD d 0) r v2
        have t1 := bit_test (Z1.getD d 0) r v1
        rw [zb2] at t2
        rw [zb1] at t1
        clear hst hsu zb2 zb1 v2 v1
        generalize Z2.getD d 0 = x2 at *
        generalize Z1.getD d 0 = x1 at *
        have HRPw := hid (HRP5.out.mono HBB.out)
        have HRAw := hid (HRA5.out.mono HBB.out)
        have HRBw := hid (HRB5.out.mono HBB.out)
        obtain ⟨p0, p1⟩ := cellP HRPw.out
        obtain ⟨a0, a1, a2⟩ := cell3 HRAw.out
        obtain ⟨b0, b1, b2⟩ := cell3 HRBw.out
        have hwr := HB.out.size
        clear HBA HBB
        cases xn
        · simp only [Bool.not_false, Bool.true_and] at t2
          cases hv
          · go_wp2_with (go_at_call 48; refine (HHC.out _).mono ?_; rintro e w6 ⟨rfl, hb6⟩; have HB6 := hid hb6; clear hb6)
            go_roundw
            case rel => exact ⟨t + 1, by omega, by go_num, hid (Below.then' (HB.out.alloc HB.out.size _) HB6.out (by simp; omega))⟩
            case measure => simp [intOf]; omega
          · go_wp2_with (go_at_call 48; refine (HHC.out _).mono ?_; rintro e w6 ⟨rfl, hb6⟩; have HB6 := hid hb6; clear hb6)
            go_roundw
            case rel => exact ⟨t + 1, by omega, by go_num, hid (Below.then' (HB.out.alloc HB.out.size _) HB6.out (by simp; omega))⟩
            case measure => simp [intOf]; omega
        · simp only [Bool.not_true, Bool.false_and] at t2
          go_wp2_with (go_at_call 48; refine (HHC.out _).mono ?_; rintro e w6 ⟨rfl, hb6⟩; have HB6 := hid hb6; clear hb6)
          go_roundw
          case rel => exact ⟨t + 1, by omega, by go_num, hid (HB.out.alloc HB.out.size _)⟩
          case measure => simp [intOf]; omega
      · go_wp2_with fail
        go_ret
        exact ⟨rfl, HBF.out⟩
end Go.Proofs.YthonbfojpbfmgaaGreatDoor

/- LawKernel: the cells that the law makes. -/
set_option linter.unusedVariables false
set_option linter.unusedSimpArgs false
set_option linter.unnecessarySimpa false
set_option maxRecDepth 100000
namespace Go.Proofs.YthonbfojpbfmgaaGreatDoor
open Go.RowKit

/-- is the cell of that place to be NULL? -/
def nlAt (ns : List Bool) (i : Nat) : Bool := ns.getD i false
def intC (xs : List Int) (ns : List Bool) (n : Nat) : List C3 := (List.range n).map fun i => if nlAt ns i = true then ⟨true, 0, ByteArray.empty⟩ else ⟨false, xs.getD i 0, ByteArray.empty⟩
def clipS (s : ByteArray) : ByteArray := if 1024 < s.size then s.extract 0 1024 else s
def strC (xs : List ByteArray) (ns : List Bool) (n : Nat) : List C3 := (List.range n).map fun i => if nlAt ns i = true then ⟨true, 0, ByteArray.empty⟩ else ⟨false, 0, clipS (xs.getD i ByteArray.empty)⟩
theorem intC_len (xs : List Int) (ns : List Bool) (n : Nat) : (intC xs ns n).length = n := by simp [intC]
theorem strC_len (xs : List ByteArray) (ns : List Bool) (n : Nat) : (strC xs ns n).length = n := by simp [strC]
theorem intC_snoc (xs : List Int) (ns : List Bool) (n : Nat) : cells3 (intC xs ns (n + 1)) = cells3 (intC xs ns n) ++ [.bool (nlAt ns n), .int .i64 (if nlAt ns n = true then 0 else xs.getD n 0), .string ByteArray.empty] := by
  unfold intC
  rw [List.range_succ, List.map_append, List.map_cons, List.map_nil, cells3_snoc]
  cases nlAt ns n <;> rfl
theorem strC_snoc (xs : List ByteArray) (ns : List Bool) (n : Nat) : cells3 (strC xs ns (n + 1)) = cells3 (strC xs ns n) ++ [.bool (nlAt ns n), .int .i64 0, .string (if nlAt ns n = true then ByteArray.empty else clipS (xs.getD n ByteArray.empty))] := by
  unfold strC
  rw [List.range_succ, List.map_append, List.map_cons, List.map_nil, cells3_snoc]
  cases nlAt ns n <;> rfl
theorem Rd.atBool {w : World} {D : Option Addr} {n m cd : Nat} {xs : List Bool} (h : Rd w (.slice D n cd) m 1 (bools xs)) (h0 : 0 < m) : ∃ b o, D = some ⟨b, o, none⟩ ∧ ∀ k, k < xs.length → w.cell? ⟨b, o + k, none⟩ = some (.bool (xs.getD k false)) := by
  obtain ⟨b, o, rfl, hs⟩ := h.at h0
  exact ⟨b, o, rfl, fun k hk => hs k _ (bools_get xs k hk)⟩
set_option maxHeartbeats 8000000 in
theorem intCells_any (u v : Value) (xs : List Int) (ns : List Bool) (w : World) (hu : Rd w u xs.length 1 (i64s xs)) (hv : Rd w v ns.length 1 (bools ns)) :
    Calls Tryz.prog 21 #[u, v] w fun e w' => ∃ r, e = .returned r ∧ w'.ownsRow w.heap.size 42 3 r (min xs.length 65536) (cells3 (intC xs ns (min xs.length 65536))) ∧ Below w.heap.size w w' := by
  have HU := hid hu; have HV := hid hv
  obtain ⟨A1, c1, rfl, hlc1, hcm1, _⟩ := hu.form
  obtain ⟨A2, c2, rfl, hlc2, hcm2, _⟩ := hv.form
  clear hu hv
  unfold maxLen at hcm1 hcm2
  obtain ⟨xn, hxn⟩ : ∃ xn, xs.length = xn := ⟨_, rfl⟩
  obtain ⟨nn, hnn⟩ : ∃ nn, ns.length = nn := ⟨_, rfl⟩
  have HXN := hid hxn; have HNN := hid hnn
  simp only [hxn, hnn] at HU HV hlc1 hlc2 ⊢
  clear hxn hnn
  go_enter Tryz.func21, Tryz.ntmps21
  go_wp2_with fail
  go_loopw [5, 10] (fun s i wr => ∃ t : Nat, t ≤ min xn 65536 ∧ i = .int .i64 t ∧ Hid (wr.ownsRow w.heap.size 42 3 s t (cells3 (intC xs ns t))) ∧ Hid (Below w.heap.size w wr)) (fun _ i _ => xn - (intOf i).toNat)
  case atStart => exact ⟨0, by omega, rfl, hid ⟨by simp [intC, cells3], .inl ⟨rfl, rfl⟩⟩, hid (brefl w)⟩
  case round =>
    obtain ⟨t, ht, rfl, HE, HB⟩ := hrel
    obtain ⟨E1, ce1, rfl⟩ := owns3_form HE.out
    have HSZ := hid HB.out.size
    by_cases hlt : t < xn
    · obtain ⟨b, o, rfl, hs⟩ := (HU.out.mono HB.out).at (by omega)
      have l0 : wr.cell? ⟨b, o + t, none⟩ = some (.int .i64 (xs.getD t 0)) := hs.int t (by rw [HXN.out]; exact hlt)
      have HSN := hid (intC_snoc xs ns t)
      have HNA : Hid (nlAt ns t = ns.getD t false) := hid rfl
      clear hs
      generalize xs.getD t 0 = x at *
      by_cases h6 : t = 65536
      · have hmin : min xn 65536 = t := by omega
        have e6 : ((t : Int) == 65536) = true := by simp; omega
        clear h6
        go_wp2_with fail
        go_ret
        rw [hmin]
        exact ⟨_, rfl, HE.out, HB.out⟩
      · have e6 : ((t : Int) == 65536) = false := by simp; omega
        have hm1 : t + 1 ≤ min xn 65536 := by omega
        by_cases hnl : t < nn
        · obtain ⟨b2, o2, rfl, hs2⟩ := (HV.out.mono HB.out).atBool (by omega)
          have l1 := hs2 t (by rw [HNN.out]; exact hnl)
          rw [← HNA.out] at l1
          clear hs2
          have hi : (t : Int) < (nn : Int) := by omega
          generalize nlAt ns t = q at *
          cases q
          · rw [if_neg (by decide)] at HSN
            go_wp2_with (at_builtin; refine wpList_append3K rfl (.tmp 31) (.tmp 34) rfl 42 [.bool false, .int .i64 0, .string ByteArray.empty] 32 Tryz.underlying23 Tryz.infoCell rfl rfl rfl HE.out HSZ.out (by intro u hu; simp at hu; rcases hu with rfl | rfl | rfl <;> rfl) (by unfold maxLen; omega) (by omega) ?_; intro v6 w6 ho6 hb6 hz6 hk6; have HO6 := hid ho6; have HB6 := hid hb6; clear ho6 hb6 hz6 hk6)
            go_roundw
            case rel => exact ⟨t + 1, hm1, by go_num, hid (by rw [HSN.out]; exact HO6.out), hid (HB.out.trans HB6.out)⟩
            case measure => simp [intOf]; omega
          · rw [if_pos rfl] at HSN
            go_wp2_with (at_builtin; refine wpList_append3K rfl (.tmp 27) (.tmp 29) rfl 42 [.bool false, .int .i64 0, .string ByteArray.empty] 32 Tryz.underlying23 Tryz.infoCell rfl rfl rfl HE.out HSZ.out (by intro u hu; simp at hu; rcases hu with rfl | rfl | rfl <;> rfl) (by unfold maxLen; omega) (by omega) ?_; intro v6 w6 ho6 hb6 hz6 hk6; have HO6 := hid ho6; have HB6 := hid hb6; clear ho6 hb6 hz6 hk6)
            go_roundw
            case rel => exact ⟨t + 1, hm1, by go_num, hid (by rw [HSN.out]; exact HO6.out), hid (HB.out.trans HB6.out)⟩
            case measure => simp [intOf]; omega
        · have hi : ¬ (t : Int) < (nn : Int) := by omega
          have hq : nlAt ns t = false := by rw [HNA.out]; simp [List.getD, List.getElem?_eq_none (show ns.length ≤ t by rw [HNN.out]; omega)]
          rw [hq, if_neg (by decide)] at HSN
          clear HNA hq
          go_wp2_with (at_builtin; refine wpList_append3K rfl (.tmp 31) (.tmp 34) rfl 42 [.bool false, .int .i64 0, .string ByteArray.empty] 32 Tryz.underlying23 Tryz.infoCell rfl rfl rfl HE.out HSZ.out (by intro u hu; simp at hu; rcases hu with rfl | rfl | rfl <;> rfl) (by unfold maxLen; omega) (by omega) ?_; intro v6 w6 ho6 hb6 hz6 hk6; have HO6 := hid ho6; have HB6 := hid hb6; clear ho6 hb6 hz6 hk6)
          go_roundw
          case rel => exact ⟨t + 1, hm1, by go_num, hid (by rw [HSN.out]; exact HO6.out), hid (HB.out.trans HB6.out)⟩
          case measure => simp [intOf]; omega
    · obtain rfl : t = xn := by omega
      have hmin : min t 65536 = t := by omega
      go_wp2_with fail
      go_ret
      rw [hmin]
      exact ⟨_, rfl, HE.out, HB.out⟩
end Go.Proofs.YthonbfojpbfmgaaGreatDoor

/- LawKernel: the cells of strings that the law makes. -/
set_option linter.unusedVariables false
set_option linter.unusedSimpArgs false
set_option linter.unnecessarySimpa false
set_option maxRecDepth 100000
namespace Go.Proofs.YthonbfojpbfmgaaGreatDoor
open Go.RowKit

set_option maxHeartbeats 8000000 in
theorem strCells_any (u v : Value) (xs : List ByteArray) (ns : List Bool) (w : World) (hu : Rd w u xs.length 1 (strs xs)) (hv : Rd w v ns.length 1 (bools ns)) :
    Calls Tryz.prog 25 #[u, v] w fun e w' => ∃ r, e = .returned r ∧ w'.ownsRow w.heap.size 42 3 r (min xs.length 65536) (cells3 (strC xs ns (min xs.length 65536))) ∧ Below w.heap.size w w' := by
  have HU := hid hu; have HV := hid hv
  obtain ⟨A1, c1, rfl, hlc1, hcm1, _⟩ := hu.form
  obtain ⟨A2, c2, rfl, hlc2, hcm2, _⟩ := hv.form
  clear hu hv
  unfold maxLen at hcm1 hcm2
  obtain ⟨xn, hxn⟩ : ∃ xn, xs.length = xn := ⟨_, rfl⟩
  obtain ⟨nn, hnn⟩ : ∃ nn, ns.length = nn := ⟨_, rfl⟩
  have HXN := hid hxn; have HNN := hid hnn
  simp only [hxn, hnn] at HU HV hlc1 hlc2 ⊢
  clear hxn hnn
  go_enter Tryz.func25, Tryz.ntmps25
  go_wp2_with fail
  go_loopw [5, 10] (fun s i wr => ∃ t : Nat, t ≤ min xn 65536 ∧ i = .int .i64 t ∧ Hid (wr.ownsRow w.heap.size 42 3 s t (cells3 (strC xs ns t))) ∧ Hid (Below w.heap.size w wr)) (fun _ i _ => xn - (intOf i).toNat)
  case atStart => exact ⟨0, by omega, rfl, hid ⟨by simp [strC, cells3], .inl ⟨rfl, rfl⟩⟩, hid (brefl w)⟩
  case round =>
    obtain ⟨t, ht, rfl, HE, HB⟩ := hrel
    obtain ⟨E1, ce1, rfl⟩ := owns3_form HE.out
    have HSZ := hid HB.out.size
    by_cases hlt : t < xn
    · obtain ⟨b, o, rfl, hs⟩ := (HU.out.mono HB.out).at (by omega)
      have l0 : wr.cell? ⟨b, o + t, none⟩ = some (.string (xs.getD t ByteArray.empty)) := hs t _ (strs_get xs t (by rw [HXN.out]; exact hlt))
      have HSN := hid (strC_snoc xs ns t)
      have HNA : Hid (nlAt ns t = ns.getD t false) := hid rfl
      clear hs
      generalize xs.getD t ByteArray.empty = x at *
      by_cases h6 : t = 65536
      · have hmin : min xn 65536 = t := by omega
        have e6 : ((t : Int) == 65536) = true := by simp; omega
        clear h6
        go_wp2_with fail
        go_ret
        rw [hmin]
        exact ⟨_, rfl, HE.out, HB.out⟩
      · have e6 : ((t : Int) == 65536) = false := by simp; omega
        have hm1 : t + 1 ≤ min xn 65536 := by omega
        go_upto_if 19 with fail
        go_cut [7] from 20 to 21 (fun s7 wc => s7 = .string (clipS x) ∧ wc = wr)
        case first =>
          by_cases hbig : 1024 < x.size
          · have hc : clipS x = x.extract 0 1024 := by unfold clipS; rw [if_pos hbig]
            have hbi : (1024 : Int) < (x.size : Int) := by omega
            have hb3 : (1024 : Int) ≤ (x.size : Int) := by omega
            go_wp2_with fail
            go_meet
            exact ⟨by rw [hc], rfl⟩
          · have hc : clipS x = x := by unfold clipS; rw [if_neg hbig]
            have hbi : ¬ (1024 : Int) < (x.size : Int) := by omega
            go_wp2_with fail
            go_meet
            exact ⟨by rw [hc], rfl⟩
        case rest =>
        obtain ⟨rfl, hw⟩ := hcut
        replace hw := hw.symm
        subst hw
        generalize clipS x = y at *
        by_cases hnl : t < nn
        · obtain ⟨b2, o2, rfl, hs2⟩ := (HV.out.mono HB.out).atBool (by omega)
          have l1 := hs2 t (by rw [HNN.out]; exact hnl)
          rw [← HNA.out] at l1
          clear hs2
          have hi : (t : Int) < (nn : Int) := by omega
          generalize nlAt ns t = q at *
          cases q
          · rw [if_neg (by decide)] at HSN
            go_wp2_with (at_builtin; refine wpList_append3K rfl (.tmp 36) (.tmp 39) rfl 42 [.bool false, .int .i64 0, .string ByteArray.empty] 32 Tryz.underlying23 Tryz.infoCell rfl rfl rfl HE.out HSZ.out (by intro u hu; simp at hu; rcases hu with rfl | rfl | rfl <;> rfl) (by unfold maxLen; omega) (by omega) ?_; intro v6 w6 ho6 hb6 hz6 hk6; have HO6 := hid ho6; have HB6 := hid hb6; clear ho6 hb6 hz6 hk6)
            go_roundw
            case rel => exact ⟨t + 1, hm1, by go_num, hid (by rw [HSN.out]; exact HO6.out), hid (HB.out.trans HB6.out)⟩
            case measure => simp [intOf]; omega
          · rw [if_pos rfl] at HSN
            go_wp2_with (at_builtin; refine wpList_append3K rfl (.tmp 32) (.tmp 34) rfl 42 [.bool false, .int .i64 0, .string ByteArray.empty] 32 Tryz.underlying23 Tryz.infoCell rfl rfl rfl HE.out HSZ.out (by intro u hu; simp at hu; rcases hu with rfl | rfl | rfl <;> rfl) (by unfold maxLen; omega) (by omega) ?_; intro v6 w6 ho6 hb6 hz6 hk6; have HO6 := hid ho6; have HB6 := hid hb6; clear ho6 hb6 hz6 hk6)
            go_roundw
            case rel => exact ⟨t + 1, hm1, by go_num, hid (by rw [HSN.out]; exact HO6.out), hid (HB.out.trans HB6.out)⟩
            case measure => simp [intOf]; omega
        · have hi : ¬ (t : Int) < (nn : Int) := by omega
          have hq : nlAt ns t = false := by rw [HNA.out]; simp [List.getD, List.getElem?_eq_none (show ns.length ≤ t by rw [HNN.out]; omega)]
          rw [hq, if_neg (by decide)] at HSN
          clear HNA hq
          go_wp2_with (at_builtin; refine wpList_append3K rfl (.tmp 36) (.tmp 39) rfl 42 [.bool false, .int .i64 0, .string ByteArray.empty] 32 Tryz.underlying23 Tryz.infoCell rfl rfl rfl HE.out HSZ.out (by intro u hu; simp at hu; rcases hu with rfl | rfl | rfl <;> rfl) (by unfold maxLen; omega) (by omega) ?_; intro v6 w6 ho6 hb6 hz6 hk6; have HO6 := hid ho6; have HB6 := hid hb6; clear ho6 hb6 hz6 hk6)
          go_roundw
          case rel => exact ⟨t + 1, hm1, by go_num, hid (by rw [HSN.out]; exact HO6.out), hid (HB.out.trans HB6.out)⟩
          case measure => simp [intOf]; omega
    · obtain rfl : t = xn := by omega
      have hmin : min t 65536 = t := by omega
      go_wp2_with fail
      go_ret
      rw [hmin]
      exact ⟨_, rfl, HE.out, HB.out⟩
end Go.Proofs.YthonbfojpbfmgaaGreatDoor
