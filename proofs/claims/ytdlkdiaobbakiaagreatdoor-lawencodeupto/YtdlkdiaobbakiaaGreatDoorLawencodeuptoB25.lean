/- LawDecode's walk. -/
import Derived.Test.YtdlkdiaobbakiaaGreatDoorLawencodeuptoB15
import Derived.Test.YtdlkdiaobbakiaaGreatDoorLawencodeuptoB1
import Derived.Deep.RegionHeld3
import Derived.Test.YtdlkdiaobbakiaaGreatDoorLawencodeuptoB21
import Derived.Test.YtdlkdiaobbakiaaGreatDoorLawencodeuptoB24
import Derived.Deep.DeepMust
import Derived.Deep.Slices
import Derived.Deep.Fields
import Derived.Lib.SmallJoins
import Derived.OpenShut
set_option linter.unusedVariables false
set_option linter.unusedSimpArgs false
set_option linter.unnecessarySimpa false
set_option maxRecDepth 100000
namespace Go.Proofs.YtdlkdiaobbakiaaGreatDoor
open Go.RowKit

theorem tailI_len (m : Nat) : (tailI m).length = m := by simp [tailI]
theorem row_layB {w : World} {g m : Nat} {xs : List Nat} (h : Row w g 5 (u8s (xs ++ tailB m))) (hl : xs.length + m ≤ maxLen) :
    Rd w (.slice (some ⟨g, 0, none⟩) (xs.length + m) (xs.length + m)) (xs ++ tailB m).length 1 (u8s (xs ++ tailB m)) := by
  have e : (xs ++ tailB m).length = xs.length + m := by simp [tailB_length]
  rw [e]
  exact h.rd' (by rw [u8s_length, e]) hl
theorem row_partB {w : World} {g m : Nat} {xs : List Nat} (h : Row w g 5 (u8s (xs ++ tailB m))) (hl : xs.length + m ≤ maxLen) :
    Rd w (.slice (some ⟨g, 0, none⟩) xs.length (xs.length + m)) xs.length 1 (u8s xs) := by
  have := h.rd 0 xs.length (xs.length + m) (by simp [u8s]) (by omega) hl
  rw [List.drop_zero, u8s_append, ← u8s_length xs, List.take_left] at this
  rwa [u8s_length] at this
theorem row_layI2 {w : World} {g m : Nat} {xs : List Int} (h : Row w g 3 (i64s (xs ++ tailI m))) (hl : xs.length + m ≤ maxLen) :
    Rd w (.slice (some ⟨g, 0, none⟩) (xs.length + m) (xs.length + m)) (xs ++ tailI m).length 1 (i64s (xs ++ tailI m)) := by
  have e : (xs ++ tailI m).length = xs.length + m := by simp [tailI_len]
  rw [e]
  exact h.rd' (by rw [i64s_length, e]) hl
theorem row_partI2 {w : World} {g m : Nat} {xs : List Int} (h : Row w g 3 (i64s (xs ++ tailI m))) (hl : xs.length + m ≤ maxLen) :
    Rd w (.slice (some ⟨g, 0, none⟩) xs.length (xs.length + m)) xs.length 1 (i64s xs) := by
  have := h.rd 0 xs.length (xs.length + m) (by simp [i64s]) (by omega) hl
  rw [List.drop_zero, i64s_append, ← i64s_length xs, List.take_left] at this
  rwa [i64s_length] at this
theorem refCells_form (k rows : Int) (xs : List Nat) : ∃ A B C, refCells k rows xs = cellsUp A B C (refLen k rows xs) ∧ refLen k rows xs ≤ 16777216 := by
  unfold refCells refLen
  by_cases h : refCode k rows xs = 0
  · refine ⟨cA (rWs rows.toNat xs), cB (rWs rows.toNat xs) (rPay k.toNat rows.toNat xs).2, cC (rWs rows.toNat xs) (rPay k.toNat rows.toNat xs).2, ?_⟩
    rw [if_pos h, if_pos h]
    refine ⟨rfl, ?_⟩
    unfold refCode at h
    split at h
    · rename_i hg
      simp only [Bool.and_eq_true] at hg
      have hr2 : 0 ≤ rows ∧ rows ≤ 65536 := by simpa [isRows] using hg.2
      omega
    · cases h
  · exact ⟨fun _ => false, fun _ => 0, fun _ => ByteArray.empty, by rw [if_neg h, if_neg h]; exact ⟨rfl, by omega⟩⟩
theorem rgCells_form (k rows : Int) (xs : List Nat) (ps : List Int) (hpl : ps.length ≤ 16777216) : ∃ A B C, rgCells k rows xs ps = cellsUp A B C (rgLen k rows xs ps) ∧ rgLen k rows xs ps ≤ 16777216 := by
  unfold rgCells rgLen
  by_cases h : rgCode k rows xs ps = 0
  · rw [if_pos h, if_pos h]
    exact ⟨_, _, _, rfl, hpl⟩
  · exact ⟨fun _ => false, fun _ => 0, fun _ => ByteArray.empty, by rw [if_neg h, if_neg h]; exact ⟨rfl, by omega⟩⟩
theorem DecodeM_any (w : World) (v : Value) (xs : List Nat) (k rows : Int) (hT : Tab w) (hv : Rd w v xs.length 1 (u8s xs)) (hb : ∀ x ∈ xs, x < 256) (hl : xs.length ≤ 16777216) :
    Calls Tryz.prog 7 #[.int .i64 k, .int .i64 rows, v] w fun e w' => ∃ u, e = .returned (.tuple #[u, .int .i64 (refCode k rows xs)]) ∧ Rd w' u (refLen k rows xs) 3 (refCells k rows xs) ∧ Below w.heap.size w w' := by
  obtain ⟨m1, m2, m3⟩ := dec_meet k rows xs
  refine (Decode_any w v xs k rows hT hv hb hl (fun rows h hr => valid_I rows xs hb hl hr h) (fun rows h hr => valid_S rows xs hb hl hr h)).mono ?_
  rintro e w' ⟨h1, u, h2, h3⟩
  rw [m1] at h2
  rw [m2, m3] at h3
  exact ⟨u, h2, h3, h1⟩
theorem GatherM_any (w : World) (v u : Value) (xs : List Nat) (ps : List Int) (k rows : Int) (hT : Tab w) (hv : Rd w v xs.length 1 (u8s xs)) (hu : Rd w u ps.length 1 (i64s ps)) (hb : ∀ x ∈ xs, x < 256) (hl : xs.length ≤ 16777216) (hpl : ps.length ≤ 16777216) :
    Calls Tryz.prog 10 #[.int .i64 k, .int .i64 rows, v, u] w fun e w' => ∃ t, e = .returned (.tuple #[t, .int .i64 (rgCode k rows xs ps)]) ∧ Rd w' t (rgLen k rows xs ps) 3 (rgCells k rows xs ps) ∧ Below w.heap.size w w' := by
  obtain ⟨m1, m2, m3⟩ := gat_meet k rows xs ps
  refine (Gather_any w v u xs ps k rows hT hv hu hb hl hpl (fun rows h hr => valid_I rows xs hb hl hr h) (fun rows h hr => valid_S rows xs hb hl hr h)).mono ?_
  rintro e w' ⟨h1, t, h2, h3⟩
  rw [m1] at h2
  rw [m2, m3] at h3
  exact ⟨t, h2, h3, h1⟩

set_option maxHeartbeats 16000000 in
theorem lawDecode_walk (v2 v3 : Value) (xs : List Nat) (ps : List Int) (k n r : Int) (w : World) (ht : Tab w) (hx : Rd w v2 xs.length 1 (u8s xs)) (hp : Rd w v3 ps.length 1 (i64s ps))
    (hb : ∀ x ∈ xs, x < 256) (hlx : xs.length ≤ 16777216) (hlp : ps.length ≤ 16777216) :
    Calls Tryz.prog 3 #[.int .i64 k, .int .i64 n, v2, v3, .int .i64 r] w fun e w' => e = .returned (.bool true) ∧ Below w.heap.size w w' := by
  have hm := clipN_le r
  obtain ⟨m, hmr⟩ : ∃ m, clipN r = m := ⟨_, rfl⟩
  rw [hmr] at hm
  have HMR := hid hmr
  have HX := hid hx; have HP := hid hp; have HB := hid hb; have HT := hid ht
  have HTL := hid ht.lt
  have HMX : Hid (xs.length + m ≤ maxLen) := hid (by unfold maxLen; omega)
  have HMP : Hid (ps.length + m ≤ maxLen) := hid (by unfold maxLen; omega)
  have HDC := hid (fun (w2 : World) (v : Value) (h : Below w.heap.size w w2) (hv : Rd w2 v xs.length 1 (u8s xs)) => DecodeM_any w2 v xs k n (ht.mono h ht.lt) hv hb hlx)
  have HDR := hid (fun (w2 : World) (h : Below w.heap.size w w2) => refDecode_any k n v2 xs w2 (hx.mono h) hb hlx)
  have HGC := hid (fun (w2 : World) (v u : Value) (h : Below w.heap.size w w2) (hv : Rd w2 v xs.length 1 (u8s xs)) (hu : Rd w2 u ps.length 1 (i64s ps)) => GatherM_any w2 v u xs ps k n (ht.mono h ht.lt) hv hu hb hlx hlp)
  have HGR := hid (fun (w2 : World) (h : Below w.heap.size w w2) => refGather_any k n v2 v3 xs ps w2 (hx.mono h) (hp.mono h) hb hlx hlp)
  obtain ⟨FA, FB, FC, hf1, hf2⟩ := refCells_form k n xs
  obtain ⟨GA, GB, GC, hg1, hg2⟩ := rgCells_form k n xs ps hlp
  rw [hf1] at HDC HDR
  rw [hg1] at HGC HGR
  clear hf1 hg1
  generalize refCode k n xs = c1 at *
  generalize refLen k n xs = n1 at *
  generalize rgCode k n xs ps = c2 at *
  generalize rgLen k n xs ps = n2 at *
  have HSC := hid (fun (x y : Value) (w2 : World) (h1 : Rd w2 x n1 3 (cellsUp FA FB FC n1)) (h2 : Rd w2 y n1 3 (cellsUp FA FB FC n1)) => sameCells_same x y n1 FA FB FC w2 h1 h2 hf2)
  have HSG := hid (fun (x y : Value) (w2 : World) (h1 : Rd w2 x n2 3 (cellsUp GA GB GC n2)) (h2 : Rd w2 y n2 3 (cellsUp GA GB GC n2)) => sameCells_same x y n2 GA GB GC w2 h1 h2 hg2)
  generalize cellsUp FA FB FC n1 = CF at *
  generalize cellsUp GA GB GC n2 = CG at *
  obtain ⟨A2, ca2, rfl, _, _, _⟩ := hx.form
  obtain ⟨A3, ca3, rfl, _, _, _⟩ := hp.form
  clear hmr hx hp hb ht
  have e1 : (c1 != c1) = false := by simp
  have e2 : (c2 == c2) = true := by simp
  go_enter Tryz.func3, Tryz.ntmps3
  go_wp2_with fail
  refine (layBytes_any _ xs r _ HX.out (by omega)).mono ?_
  rintro e w1 ⟨rfl, hr1, hb1, hz1⟩
  rw [HMR.out] at hr1
  rw [HMR.out]
  have HR1 := hid hr1; have HB1 := hid hb1
  clear hr1 hb1 hz1
  go_wp2_with fail
  refine (layInts_any _ ps r _ (HP.out.mono HB1.out) (by omega)).mono ?_
  rintro e w2 ⟨rfl, hr2, hb2, hz2⟩
  rw [HMR.out] at hr2
  rw [HMR.out]
  have HR2 := hid hr2; have HB2 := hid (bthen HB1.out hb2)
  have HR1b := hid (HR1.out.mono hb2)
  clear hr2 hb2 hz2 HR1
  have HFX := hid (row_partB HR1b.out HMX.out)
  have HFP := hid (row_partI2 HR2.out HMP.out)
  go_wp2_with (go_at_call 7; refine (HDC.out w2 _ HB2.out HFX.out).mono ?_; rintro e w3 ⟨u1, rfl, hrd1, hb3⟩; have HU1 := hid hrd1; have HB3 := hid hb3; obtain ⟨D1, d1, rfl, _, _, _⟩ := hrd1.form; clear hrd1 hb3)
  refine (HDR.out w3 (bthen HB2.out HB3.out)).mono ?_
  rintro e w4 ⟨u2, rfl, ho2, hb4⟩
  have HU2 := hid (owns3_rd ho2)
  have HU1b := hid (HU1.out.mono hb4)
  have HB4 := hid (bthen HB3.out hb4)
  obtain ⟨D2, d2, rfl⟩ := owns3_form ho2
  clear ho2 hb4 HU1
  go_upto_region 7 with (go_at_call 9; refine (HSC.out _ _ w4 HU1b.out HU2.out).mono ?_; rintro e w5 ⟨rfl, nd5, rfl⟩)
  have HB5 : Hid (Below w2.heap.size w2 (w4.drewN nd5)) := hid (bdrew HB4.out nd5)
  generalize w4.drewN nd5 = w5 at *
  have HFX5 := hid (HFX.out.mono HB5.out)
  have HFP5 := hid (HFP.out.mono HB5.out)
  have HB05 := hid (bthen HB2.out HB5.out)
  have HGW := hid (fun (w6 : World) (h : Below w5.heap.size w5 w6) => HGC.out w6 _ _ (bthen HB05.out h) (HFX5.out.mono h) (HFP5.out.mono h))
  clear HU1b HU2 HB3 HB4 HFX HFP HDC HDR HSC
  have s1 : (xs.length : Int) ≤ (xs.length : Int) + (m : Int) := by omega
  have s2 : (ps.length : Int) ≤ (ps.length : Int) + (m : Int) := by omega
  have s3 : xs.length ≤ xs.length + m := by omega
  have s4 : ps.length ≤ ps.length + m := by omega
  go_region_held3 (fun w' => True) (trivial)
    (first | (go_at_call 10; refine (HGW.out _ (bdrew (brefl w5) 1)).mono ?_; rintro e w6 ⟨u3, rfl, hrd3, hb6⟩; have HU3 := hid hrd3; have HB6 := hid ((bdrew (brefl w5) 1).trans hb6); obtain ⟨D3, d3, rfl, _, _, _⟩ := hrd3.form; clear hrd3 hb6))
  have HB06 := hid (bthen HB05.out HB6.out)
  go_wp2_with fail
  refine (HGR.out w6 HB06.out).mono ?_
  rintro e w7 ⟨u4, rfl, ho4, hb7⟩
  have HU4 := hid (owns3_rd ho4)
  have HU3b := hid (HU3.out.mono hb7)
  have HB27 := hid (bthen (bthen HB5.out HB6.out) hb7)
  obtain ⟨D4, d4, rfl⟩ := owns3_form ho4
  clear ho4 hb7 HU3 HGW HGC HGR HB06 HB6 HFX5 HFP5 HB5 HB05
  have HR17 := hid (HR1b.out.mono HB27.out)
  have HR27 := hid (HR2.out.mono HB27.out)
  have HB07 := hid (bthen HB2.out HB27.out)
  clear HR1b HR2 HB27
  go_wp2_with (first
    | (go_at_call 9; refine (HSG.out _ _ w7 HU3b.out HU4.out).mono ?_; rintro e w8 ⟨rfl, nd8, rfl⟩; have HB08 : Hid (Below w7.heap.size w7 (w7.drewN nd8)) := hid (bdrew (brefl w7) nd8))
    | (go_at_call 5; refine (layBytes_any _ xs r _ (HX.out.mono (bthen HB07.out HB08.out)) (by omega)).mono ?_; rintro e w9 ⟨rfl, hr9, hb9, hz9⟩; rw [HMR.out] at hr9; rw [HMR.out]; have HR9 := hid hr9; have HB9 := hid (bthen HB08.out hb9); clear hr9 hb9 hz9)
    | (go_at_call 12; refine (sameBytes_same _ _ (xs ++ tailB m) _ (row_layB (HR17.out.mono HB9.out) HMX.out) (row_layB HR9.out HMX.out)).mono ?_; rintro e w10 ⟨rfl, hw⟩; replace hw := hw.symm; subst hw)
    | (go_at_call 6; refine (layInts_any _ ps r _ (HP.out.mono (bthen HB07.out HB9.out)) (by omega)).mono ?_; rintro e w11 ⟨rfl, hr11, hb11, hz11⟩; rw [HMR.out] at hr11; rw [HMR.out]; have HR11 := hid hr11; have HB11 := hid (bthen HB9.out hb11); clear hr11 hb11 hz11)
    | (go_at_call 13; refine (sameInts_same _ _ (ps ++ tailI m) _ (row_layI2 (HR27.out.mono HB11.out) HMP.out) (row_layI2 HR11.out HMP.out) (by have := HMP.out; rw [List.length_append, tailI_len]; exact this)).mono ?_; rintro e w12 ⟨rfl, nd12, rfl⟩))
  go_ret
  exact ⟨rfl, bdrew (bthen HB07.out HB11.out) nd12⟩
end Go.Proofs.YtdlkdiaobbakiaaGreatDoor

/- LawEncode's walk. -/
set_option linter.unusedVariables false
set_option linter.unusedSimpArgs false
set_option linter.unnecessarySimpa false
set_option maxRecDepth 100000
namespace Go.Proofs.YtdlkdiaobbakiaaGreatDoor
open Go.RowKit

theorem rowC_lay {w : World} {g m : Nat} {cs : List C3} (h : Row w g 38 (cells3 (cs ++ tailC m))) (hl : cs.length + m ≤ maxLen) :
    Rd w (.slice (some ⟨g, 0, none⟩) (cs.length + m) (cs.length + m)) (cs ++ tailC m).length 3 (cells3 (cs ++ tailC m)) := by
  have e : (cs ++ tailC m).length = cs.length + m := by rw [List.length_append, tailC_length]
  rw [e]
  refine ⟨by rw [cells3_length, e], .inr ⟨g, 0, cs.length + m, rfl, Nat.le_refl _, hl, ?_⟩⟩
  intro i v hv
  rw [Nat.zero_add, h.cell]; exact hv
theorem rowC_part {w : World} {g m : Nat} {cs : List C3} (h : Row w g 38 (cells3 (cs ++ tailC m))) (hl : cs.length + m ≤ maxLen) :
    Rd w (.slice (some ⟨g, 0, none⟩) cs.length (cs.length + m)) cs.length 3 (cells3 cs) := by
  refine ⟨cells3_length cs, .inr ⟨g, 0, cs.length + m, rfl, by omega, hl, ?_⟩⟩
  intro i v hv
  have hi : i < (cells3 cs).length := by
    rcases Nat.lt_or_ge i (cells3 cs).length with h | h
    · exact h
    · rw [List.getElem?_eq_none h] at hv; cases hv
  rw [Nat.zero_add, h.cell, cells3_append, List.getElem?_append_left hi]; exact hv
/-- the places that the law asks for -/
def selF (n : Nat) (acc : List Int) (p : Int) : List Int := if 0 ≤ p ∧ p < (n : Int) ∧ acc.length < 65536 then acc ++ [p] else acc
def selL (n : Nat) (ps : List Int) : List Int := ps.foldl (selF n) []
theorem selL_succ (n : Nat) (ps : List Int) (t : Nat) (h : t < ps.length) : selL n (ps.take (t + 1)) = selF n (selL n (ps.take t)) (ps.getD t 0) := by
  unfold selL; rw [take_snoc ps 0 t h, List.foldl_append]; rfl
theorem selL_ok (n : Nat) (ps : List Int) : (∀ p ∈ selL n ps, 0 ≤ p ∧ p < (n : Int)) ∧ (selL n ps).length ≤ 65536 := by
  unfold selL
  have key : ∀ (ps acc : List Int), ((∀ p ∈ acc, 0 ≤ p ∧ p < (n : Int)) ∧ acc.length ≤ 65536) → (∀ p ∈ ps.foldl (selF n) acc, 0 ≤ p ∧ p < (n : Int)) ∧ (ps.foldl (selF n) acc).length ≤ 65536 := by
    intro ps
    induction ps with
    | nil => intro acc h; exact h
    | cons p r ih =>
      intro acc h
      rw [List.foldl_cons]
      refine ih _ ?_
      unfold selF
      split
      · rename_i hc
        refine ⟨fun x hx => ?_, by rw [List.length_append]; simp only [List.length_cons, List.length_nil]; omega⟩
        rcases List.mem_append.1 hx with h1 | h1
        · exact h.1 x h1
        · rw [List.mem_singleton] at h1; subst h1; exact ⟨hc.1, hc.2.1⟩
      · exact h
  exact key ps [] ⟨fun p hp => (by cases hp), by simp⟩
theorem pick3_snoc (cs : List C3) (qs : List Int) (p : Int) : cells3 (pick3 cs (qs ++ [p])) = cells3 (pick3 cs qs) ++ [.bool (cs.getD p.toNat C3.df).n, .int .i64 (cs.getD p.toNat C3.df).i, .string (cs.getD p.toNat C3.df).s] := by
  unfold pick3
  rw [List.map_append, List.map_cons, List.map_nil, cells3_snoc]
theorem pick3_len (cs : List C3) (qs : List Int) : (pick3 cs qs).length = qs.length := by unfold pick3; rw [List.length_map]
set_option maxHeartbeats 16000000 in
theorem lawEncode_walk (v1 v4 : Value) (cs : List C3) (ps : List Int) (k c wd r : Int) (w : World) (ht : Tab w) (hx : Rd w v1 cs.length 3 (cells3 cs)) (hp : Rd w v4 ps.length 1 (i64s ps))
    (hI : ∀ x ∈ cs, okI x.i) (hlx : cs.length ≤ 1048576) (hlp : ps.length ≤ 1048576) (hs : sumT (valsOf cs) ≤ 1048576) :
    Calls Tryz.prog 4 #[.int .i64 k, v1, .int .i64 c, .int .i64 wd, v4, .int .i64 r] w fun e w' => e = .returned (.bool true) ∧ Below w.heap.size w w' := by
  have hm := clipN_le r
  obtain ⟨m, hmr⟩ : ∃ m, clipN r = m := ⟨_, rfl⟩
  rw [hmr] at hm
  have HMR := hid hmr
  have HX := hid hx; have HP := hid hp; have HT := hid ht
  have HTL := hid ht.lt
  obtain ⟨A1, ca1, rfl, _, _, _⟩ := hx.form
  obtain ⟨A4, ca4, rfl, _, _, _⟩ := hp.form
  have HEN := hid (fun (v : Value) (w2 : World) (h : Rd w2 v cs.length 3 (cells3 cs)) => Encode_any k c wd v cs w2 h hlx (by omega))
  have HRE := hid (fun (v : Value) (w2 : World) (h : Rd w2 v cs.length 3 (cells3 cs)) => refEncode_any k c wd v cs w2 h hlx (by omega) (Nat.le_trans (diffP_sum _) (by omega)))
  have HLC := hid (fun (w2 : World) (h : Below w.heap.size w w2) => layCells_any (.slice A1 cs.length ca1) cs r w2 (HX.out.mono h) (by omega))
  rw [hmr] at HLC
  have HSC := hid (fun (x y : Value) (w2 : World) (h1 : Rd w2 x (cs ++ tailC m).length 3 (cells3 (cs ++ tailC m))) (h2 : Rd w2 y (cs ++ tailC m).length 3 (cells3 (cs ++ tailC m))) => sameCells3 x y (cs ++ tailC m) w2 h1 h2 (by rw [List.length_append, tailC_length]; omega))
  have HSD := hid (fun (x y : Value) (w2 : World) (h1 : Rd w2 x cs.length 3 (cells3 cs)) (h2 : Rd w2 y cs.length 3 (cells3 cs)) => sameCells3 x y cs w2 h1 h2 (by omega))
  have HMX : Hid (cs.length + m ≤ maxLen) := hid (by unfold maxLen; omega)
  have HBK := hid (fun (h : encCode k c wd cs = 0) => And.intro (encB_bytes h hs) (decode_back h hI (by omega)))
  have HGK := hid (fun (qs : List Int) (h : encCode k c wd cs = 0) (h1 : ∀ p ∈ qs, 0 ≤ p ∧ p < (cs.length : Int)) (h2 : qs.length ≤ 65536) => gather_back h hI (by omega) h1 h2)
  generalize encB k c wd cs = B at *
  generalize encCode k c wd cs = code at *
  clear hmr hx hp ht hI hs
  obtain ⟨n, hn⟩ : ∃ n, cs.length = n := ⟨_, rfl⟩
  have HN := hid hn
  simp only [hn] at HX HEN HRE HLC HSD HMX HBK HGK hlx ⊢
  clear hn
  have e1 : (code != code) = false := by simp
  go_enter Tryz.func4, Tryz.ntmps4
  go_wp2_with fail
  refine (HLC.out _ (brefl w)).mono ?_
  rintro e w1 ⟨rfl, hr1, hb1, hz1⟩
  have HR1 := hid hr1; have HB1 := hid hb1
  have HPX : Hid (Rd w1 (.slice (some ⟨w.heap.size, 0, none⟩) n (n + m)) n 3 (cells3 cs)) := hid (by have h9 := rowC_part (cs := cs) hr1 (by rw [HN.out]; exact HMX.out); rw [HN.out] at h9; exact h9)
  clear hr1 hb1 hz1
  have s1 : (n : Int) ≤ (n : Int) + (m : Int) := by omega
  have s3 : n ≤ n + m := by omega
  go_upto_region 4 with (first
    | (go_at_call 15; refine (HEN.out _ w1 HPX.out).mono ?_; rintro e w2 ⟨r1, rfl, ⟨⟨A2, n2, c2, rfl⟩, hz⟩, h1, h2⟩; have HZ1 := hid hz; have HO1 := hid h1; have HB2 := hid (bthen HB1.out h2); have HR2 := hid (HR1.out.mono h2); clear hz h1 h2)
    | (go_at_call 16; refine (HRE.out _ w2 (HX.out.mono HB2.out)).mono ?_; rintro e w3 ⟨r2, rfl, ⟨⟨A3, n3, c3, rfl⟩, hz⟩, h1, h2⟩; have HZ2 := hid hz; have HO2 := hid h1; have HB3 := hid (bthen HB2.out h2); have HR3 := hid (HR2.out.mono h2); have HB23 := hid h2; clear hz h1 h2))
  have HSB : Hid (Calls Tryz.prog 12 #[.slice A2 n2 c2, .slice A3 n3 c3] w3 fun e w' => e = .returned (.bool true) ∧ w' = w3) := hid (by
    by_cases h : code = 0
    · have h1 := HO1.out h
      have h2 := HO2.out h
      have g1 := owns_rd (h1.below HB23.out)
      have g2 := owns_rd h2
      exact sameBytes_same _ _ B w3 g1 g2
    · rw [HZ1.out h, HZ2.out h]
      exact sameBytes_same _ _ [] w3 ⟨rfl, .inl ⟨⟨none, rfl⟩, rfl⟩⟩ ⟨rfl, .inl ⟨⟨none, rfl⟩, rfl⟩⟩)
  have HRL := hid (fun (w4 : World) (h : Below w3.heap.size w3 w4) => rowC_lay (cs := cs) (HR3.out.mono h) (by rw [HN.out]; exact HMX.out))
  have HLL := hid (fun (w4 : World) (g : Nat) (h : Row w4 g 38 (cells3 (cs ++ tailC m))) => rowC_lay (cs := cs) h (by rw [HN.out]; exact HMX.out))
  simp only [HN.out] at HRL HLL
  go_upto_region 6 with (first
    | (go_at_call 12; refine HSB.out.mono ?_; rintro e w4 ⟨rfl, hw⟩; replace hw := hw.symm; subst hw)
    | (go_at_call 14; refine (HLC.out _ HB3.out).mono ?_; rintro e w5 ⟨rfl, hr, hb, hz⟩; have HR5 := hid hr; have HB35 := hid hb; have HB5 := hid (bthen HB3.out hb); clear hr hb hz)
    | (go_at_call 9; refine (HSC.out _ _ w5 (HRL.out w5 HB35.out) (HLL.out w5 _ HR5.out)).mono ?_; rintro e w6 ⟨rfl, nd, hw⟩; have HB6 : Hid (Below w5.heap.size w5 w6) := (hid (by rw [hw]; exact bdrew (brefl w5) nd)); clear hw))
  have HB06 := hid (bthen HB5.out HB6.out)
  by_cases hc0 : code = 0
  · subst hc0
    obtain ⟨⟨hb256, hlen⟩, hd1, hd2, hd3⟩ := HBK.out rfl
    have hob := HO1.out rfl
    obtain ⟨bA, bc, hbb⟩ := hob.form
    injection hbb with hb1 hb2 hb3
    subst hb1 hb2 hb3
    have HBR6 := hid (((owns_rd hob).mono HB23.out).mono (bthen HB35.out HB6.out))
    have HDC := hid (DecodeM_any w6 _ B k n (HT.out.mono HB06.out HTL.out) HBR6.out hb256 hlen)
    rw [hd1, hd2, hd3] at HDC
    have HBF := hid (And.intro hb256 hlen)
    have HT6 := hid (HT.out.mono HB06.out HTL.out)
    have HTL6 := hid HT6.out.lt
    have HX6 := hid (HX.out.mono HB06.out)
    have HP6 := hid (HP.out.mono HB06.out)
    clear hb256 hlen hd1 hd2 hd3 hob HSB HRL HLL HEN HRE HLC HSC HR1 HR2 HR3 HR5 HB1 HB2 HB3 HB5 HB23 HB35 HB6 HZ1 HZ2 HO1 HO2 HPX HBK HX HT
    have e3 : ((0 : Int) != 0) = false := by decide
    go_wp2_with (first
      | (go_at_call 7; refine HDC.out.mono ?_; rintro e w7 ⟨u7, rfl, h1, h2⟩; obtain ⟨A7, c7, rfl, _, _, _⟩ := h1.form; have HU7 := hid h1; have HB7 := hid h2; clear h1 h2)
      | (go_at_call 9; refine (HSD.out _ _ w7 HU7.out (HX6.out.mono HB7.out)).mono ?_; rintro e w8 ⟨rfl, nd, hw⟩; have HB8 : Hid (Below w7.heap.size w7 w8) := (hid (by rw [hw]; exact bdrew (brefl w7) nd)); clear hw))
    have HB68 := hid (bthen HB7.out HB8.out)
    have HB08 := hid (bthen HB06.out HB68.out)
    have HX8 := hid (HX6.out.mono HB68.out)
    have HP8 := hid (HP6.out.mono HB68.out)
    have HBR8 := hid (HBR6.out.mono HB68.out)
    have HT8 := hid (HT6.out.mono HB68.out HTL6.out)
    have HTL8 := hid HT8.out.lt
    clear HDC HU7 HB7 HB8 HX6 HP6 HBR6 HT6 HTL6 HB06 HB68 HP
    go_loopw [19, 20, 83] (fun pv wv i wr => ∃ t : Nat, t ≤ ps.length ∧ i = .int .i64 t ∧ Hid (wr.ownsRow w8.heap.size 3 1 pv (selL n (ps.take t)).length (i64s (selL n (ps.take t)))) ∧ Hid (wr.ownsRow w8.heap.size 38 3 wv (selL n (ps.take t)).length (cells3 (pick3 cs (selL n (ps.take t))))) ∧ Hid (Apart pv wv) ∧ Hid (Below w8.heap.size w8 wr)) (fun _ _ i _ => ps.length - (intOf i).toNat)
    case atStart => exact ⟨0, by omega, rfl, hid (World.ownsRow_nil _ _ _ _), hid ⟨by simp [selL, pick3, cells3], .inl ⟨rfl, rfl⟩⟩, hid (fun k h => by cases h), hid (brefl w8)⟩
    case round =>
      obtain ⟨t, ht, rfl, HE, HF, HAP, HB⟩ := hrel
      by_cases hlt : t < ps.length
      · obtain ⟨b, o, rfl, hs⟩ := (HP8.out.mono HB.out).atI (by omega)
        have l0 := hs t hlt
        clear hs
        have HSE := hid (selL_succ n ps t hlt)
        have HML := hid (selL_ok n (ps.take t)).2
        generalize ps.getD t 0 = p at *
        generalize selL n (ps.take t) = qs at *
        obtain ⟨m1, hm1⟩ : ∃ m1, qs.length = m1 := ⟨_, rfl⟩
        have HM := hid hm1
        simp only [hm1] at HE HF HML
        have hm9 : m1 ≤ 65536 := HML.out
        clear hm1
        obtain ⟨E1, ce1, rfl, _⟩ := owns_form HE.out
        obtain ⟨F1, cf1, rfl⟩ := owns3_form HF.out
        have HSZ := hid HB.out.size
        by_cases hc1 : 0 ≤ p
        · by_cases hc2 : p < (n : Int)
          · by_cases hc3 : m1 < 65536
            · obtain ⟨q, rfl⟩ := Int.eq_ofNat_of_zero_le hc1
              have HSN : Hid (selL n (ps.take (t + 1)) = qs ++ [(q : Int)]) := hid (by rw [HSE.out]; unfold selF; rw [if_pos (by rw [HM.out]; exact ⟨hc1, hc2, hc3⟩)])
              have hqn : q < cs.length := by rw [HN.out]; omega
              have HPS := hid (pick3_snoc cs qs (q : Int))
              have g3 : (m1 : Int) < 65536 := by omega
              clear HSE
              go_upto_region 18 with (at_builtin; refine wpList_append1W rfl (.tmp 100) (.tmp 102) rfl 3 (.int .i64 0) 8 Tryz.underlying23 Tryz.infoI64 rfl rfl rfl HE.out HSZ.out (by rfl) (by unfold maxLen; omega) (by omega) ?_; intro v5 w5 ho5 hb5 hz5 hk5 hw5)
              have HO5 := hid ho5
              have HB5 := hid hb5
              have HZ5 := hid hz5
              have HK5 := hid (show Kp _ wr w5 v5 from ⟨hk5, fun k hk => by
                rcases hw5 with h | h
                · exact .inl (by rw [← h]; exact hk.symm)
                · exact .inr (h.1 k hk)⟩)
              clear ho5 hb5 hz5 hk5 hw5
              have HF5 := hid (owns_kp HF.out HK5.out HAP.out)
              have HAP5 := hid (HAP.out.left HK5.out (fun k hk => (HF.out.lt k hk).2))
              have HS5 := hid (Nat.le_trans HSZ.out HZ5.out)
              have HB85 := hid (HB.out.trans HB5.out)
              obtain ⟨E2, ce2, rfl, _⟩ := owns_form HO5.out
              obtain ⟨b2, o2, rfl, hcells⟩ := (HX8.out.mono HB85.out).at3 (by omega)
              obtain ⟨m0, m2, m3⟩ := hcells q hqn
              have hqt : (q : Int).toNat = q := by omega
              rw [hqt] at HPS
              clear hcells hqt
              generalize cs.getD q C3.df = X at *
              obtain ⟨xn, xi, xs'⟩ := X
              simp only at m0 m2 m3 HPS
              go_wp2_with (at_builtin; refine wpList_append3K rfl (.tmp 104) (.tmp 109) rfl 38 [.bool false, .int .i64 0, .string ByteArray.empty] 32 Tryz.underlying26 Tryz.infoCell rfl rfl rfl HF5.out HS5.out (by intro u hu; simp at hu; rcases hu with rfl | rfl | rfl <;> rfl) (by unfold maxLen; omega) (by omega) ?_; intro v6 w6 ho6 hb6 hz6 hk6)
              have HO6 := hid ho6
              have HB6 := hid hb6
              have HK6 := hid hk6
              clear ho6 hb6 hz6 hk6 m0 m2 m3
              have HE6 := hid (owns_kp HO5.out HK6.out HAP5.out.symm)
              have HAP6 := hid (HAP5.out.right HK6.out (fun k hk => (HO5.out.lt k hk).2))
              go_roundw
              case rel =>
                have G1 : Hid ((selL n (ps.take (t + 1))).length = m1 + 1) := hid (by rw [HSN.out, List.length_append, HM.out]; rfl)
                have G2 : Hid (i64s (selL n (ps.take (t + 1))) = i64s qs ++ [.int .i64 (q : Int)]) := hid (by rw [HSN.out, i64s_append]; rfl)
                have G3 : Hid (cells3 (pick3 cs (selL n (ps.take (t + 1)))) = cells3 (pick3 cs qs) ++ [.bool xn, .int .i64 xi, .string xs']) := hid (by rw [HSN.out, HPS.out])
                exact ⟨t + 1, by omega, by go_num, hid (by rw [G1.out, G2.out]; exact HE6.out), hid (by rw [G1.out, G3.out]; exact HO6.out), HAP6, hid (HB85.out.trans HB6.out)⟩
              case measure => simp [intOf]; omega
            · have HSN : Hid (selL n (ps.take (t + 1)) = qs) := hid (by rw [HSE.out]; unfold selF; rw [if_neg (by rw [HM.out]; omega)])
              have g3 : ¬ (m1 : Int) < 65536 := by omega
              go_wp2_with fail
              go_roundw
              case rel => exact ⟨t + 1, by omega, by go_num, hid (by rw [HSN.out, HM.out]; exact HE.out), hid (by rw [HSN.out, HM.out]; exact HF.out), HAP, HB⟩
              case measure => simp [intOf]; omega
          · have HSN : Hid (selL n (ps.take (t + 1)) = qs) := hid (by rw [HSE.out]; unfold selF; rw [if_neg (by omega)])
            go_wp2_with fail
            go_roundw
            case rel => exact ⟨t + 1, by omega, by go_num, hid (by rw [HSN.out, HM.out]; exact HE.out), hid (by rw [HSN.out, HM.out]; exact HF.out), HAP, HB⟩
            case measure => simp [intOf]; omega
        · have HSN : Hid (selL n (ps.take (t + 1)) = qs) := hid (by rw [HSE.out]; unfold selF; rw [if_neg (by omega)])
          go_wp2_with fail
          go_roundw
          case rel => exact ⟨t + 1, by omega, by go_num, hid (by rw [HSN.out, HM.out]; exact HE.out), hid (by rw [HSN.out, HM.out]; exact HF.out), HAP, HB⟩
          case measure => simp [intOf]; omega
      · obtain rfl : t = ps.length := by omega
        rw [List.take_length] at HE HF
        obtain ⟨hsel, hsl⟩ := selL_ok n ps
        obtain ⟨hg1, hg2, hg3⟩ := HGK.out (selL n ps) (by trivial) hsel hsl
        have hpk := pick3_len cs (selL n ps)
        generalize selL n ps = qs at *
        obtain ⟨E1, ce1, rfl, _⟩ := owns_form HE.out
        obtain ⟨F1, cf1, rfl⟩ := owns3_form HF.out
        have HGA := hid (GatherM_any wr _ (.slice E1 qs.length ce1) B qs k n (HT8.out.mono HB.out HTL8.out) (HBR8.out.mono HB.out) (owns_rd HE.out) HBF.out.1 HBF.out.2 (by omega))
        rw [hg1, hg2, hg3] at HGA
        have HFR := hid (owns3_rd HF.out)
        have HSF := hid (fun (x y : Value) (w2 : World) (h1 : Rd w2 x (pick3 cs qs).length 3 (cells3 (pick3 cs qs))) (h2 : Rd w2 y (pick3 cs qs).length 3 (cells3 (pick3 cs qs))) => sameCells3 x y (pick3 cs qs) w2 h1 h2 (by omega))
        rw [hpk] at HSF
        have HBE := hid (bthen HB08.out HB.out)
        clear hg1 hg2 hg3 hsel hpk HGK HE HF
        generalize cells3 (pick3 cs qs) = CG at *
        generalize wr = w9 at *
        have e4 : ((0 : Int) == 0) = true := by decide
        go_wp2_with (first
          | (go_at_call 10; refine HGA.out.mono ?_; rintro e w10 ⟨u10, rfl, h1, h2⟩; obtain ⟨A10, c10, rfl, _, _, _⟩ := h1.form; have HU10 := hid h1; have HB10 := hid h2; clear h1 h2)
          | (go_at_call 9; refine (HSF.out _ _ w10 HU10.out (HFR.out.mono HB10.out)).mono ?_; rintro e w11 ⟨rfl, nd, hw⟩; have HB11 : Hid (Below w10.heap.size w10 w11) := (hid (by rw [hw]; exact bdrew (brefl w10) nd)); clear hw))
        go_ret
        exact ⟨rfl, bthen HBE.out (bthen HB10.out HB11.out)⟩
  · have e2 : (code != 0) = true := by simp [hc0]
    go_wp2_with fail
    go_ret
    exact ⟨rfl, HB06.out⟩
end Go.Proofs.YtdlkdiaobbakiaaGreatDoor

/- From the row's hypotheses to lists of cells. -/
set_option maxRecDepth 512
set_option linter.unusedVariables false
set_option linter.unusedSimpArgs false
set_option linter.unnecessarySimpa false
namespace Go.Proofs.YtdlkdiaobbakiaaGreatDoor
open Go.RowKit Go.Deep Go.ChangeShapes Go.WideShapes

/-- a cell as the reading bears it -/
def litC {H : Type} (c : C3) : DataW H := .agg [.lit (.bool c.n), .lit (.int .i64 c.i), .lit (.string c.s.data.toList)]

/-- a slice of cells that came in, as the walks want it -/
theorem open_cells {H : Type} {enc : TypeId × Value → H} {P : Program} {w : World} {base : Nat} {held : Bool} {t e : TypeId} {f0 f1 f2 : Field} {a : Option Addr} {len cap : Nat} {x : DataW H × List MemPlace}
    (ht : P.underlying t = some (.slice e)) (he : P.underlying e = some (.struct #[f0, f1, f2])) (hone : oneCellFields P #[f0, f1, f2] = true) (hc : P.cellsOf e = 3)
    (t0 : P.underlying f0.type = some .bool) (t1 : P.underlying f1.type = some (.int .i64)) (t2 : P.underlying f2.type = some .string)
    (h : ∃ fuel, DataW.trod enc P w base (fun _ => true) held fuel t (Value.slice a len cap).cells.toList = some x) :
    ∃ cs : List C3, len = cs.length ∧ Rd w (.slice a len cap) cs.length 3 (cells3 cs) ∧ (∀ c ∈ cs, (Lit.int .i64 c.i).wf = true ∧ c.s.size ≤ maxLen) ∧ (cs = [] ∨ ∃ sp, x.1 = .slice (cs.map litC) sp) := by
  obtain ⟨fuel, hf⟩ := h
  rcases Go.Deep.open_slice ht hf with ⟨hcs, _⟩ | ⟨y, l, c, m, n, D, Pl, hcs, _, hl, hm, hmm, hx, hel⟩
  · simp [Value.cells] at hcs
    obtain ⟨rfl, rfl, rfl⟩ := hcs
    exact ⟨[], rfl, ⟨rfl, .inl ⟨⟨_, rfl⟩, rfl⟩⟩, by simp, .inl rfl⟩
  · simp [Value.cells] at hcs
    obtain ⟨rfl, rfl, rfl⟩ := hcs
    simp only [if_true] at hmm
    subst hmm
    have each : ∀ i, i < m → ∃ q : C3, w.cell? (y.add (i * 3)) = some (.bool q.n) ∧ w.cell? (y.add (i * 3 + 1)) = some (.int .i64 q.i) ∧ w.cell? (y.add (i * 3 + 2)) = some (.string q.s) ∧ (Lit.int .i64 q.i).wf = true ∧ q.s.size ≤ maxLen ∧ D i = litC q := by
      intro i hi
      obtain ⟨cs', h1, h2⟩ := hel i (by omega)
      rw [hc] at h1
      obtain ⟨_, hlen, hcell⟩ := World.cells?_some h1
      obtain ⟨xs, k, hk, hxy, _, hxl, hf'⟩ := DataW.trod_struct he h2
      match xs, hxl, cs', hlen with
      | [y0, y1, y2], _, [v0, v1, v2], _ =>
        obtain ⟨o0, k0⟩ := hone_of hone 0 f0 rfl
        obtain ⟨o1, k1⟩ := hone_of hone 1 f1 rfl
        obtain ⟨o2, k2⟩ := hone_of hone 2 f2 rfl
        have g0 := hf' 0 f0 rfl
        have g1 := hf' 1 f1 rfl
        have g2 := hf' 2 f2 rfl
        simp [o0, o1, o2, k0, k1, k2] at g0 g1 g2
        have e0 := hcell 0 (by omega)
        have e1 := hcell 1 (by omega)
        have e2 := hcell 2 (by omega)
        rw [Go.Deep.add_add] at e0 e1 e2
        obtain ⟨b, hb, hy0⟩ := DataW.trod_bool t0 g0
        obtain ⟨j, hj, hy1, hw⟩ := DataW.trod_int t1 g1
        obtain ⟨s, hs, hy2, hsz⟩ := DataW.trod_string t2 g2
        simp at hb hj hs
        subst hb hj hs
        exact ⟨⟨b, j, s⟩, by simpa using e0, by simpa using e1, by simpa using e2, hw, hsz, by have h9 := congrArg Prod.fst hxy; simp only [hy0, hy1, hy2] at h9; exact h9⟩
    obtain ⟨q, hq⟩ := @Go.Deep.choose_lt C3 ⟨C3.df⟩ m _ each
    have hql : ((List.range len).map q).length = len := by simp
    refine ⟨(List.range len).map q, hql.symm, ?_, ?_, .inr ⟨_, by rw [hx]; simp only [List.map_map]; congr 1; exact List.map_congr_left (fun i hi => (hq i (by have := List.mem_range.1 hi; omega)).2.2.2.2.2)⟩⟩
    · rw [hql]
      refine ⟨by rw [cells3_length, hql], ?_⟩
      by_cases hzc : m = 0
      · have h0 : len = 0 := by omega
        subst h0 hzc
        exact .inl ⟨⟨_, rfl⟩, rfl⟩
      · have h0 := (hq 0 (by omega)).1
        have hsp : y.spot = none := by
          simp only [Addr.add, Nat.zero_mul, if_true, World.cell?] at h0
          split at h0
          · split at h0
            · cases h0
            · rename_i hs; simpa using hs
          · cases h0
        obtain ⟨b, o, s⟩ := y
        simp only at hsp
        subst hsp
        refine .inr ⟨b, o, m, rfl, hl, hm, ?_⟩
        intro i v hv
        have hi : i < len * 3 := by
          rcases Nat.lt_or_ge i (len * 3) with h | h
          · exact h
          · rw [List.getElem?_eq_none (by rw [cells3_length, hql]; exact h)] at hv; cases hv
        have hd : i / 3 < len := by omega
        obtain ⟨g0, g1, g2⟩ := cells3_get ((List.range len).map q) (i / 3) (by rw [hql]; exact hd)
        obtain ⟨e0, e1, e2, _, _, _⟩ := hq (i / 3) (by omega)
        have hgd : ((List.range len).map q).getD (i / 3) C3.df = q (i / 3) := by simp [List.getD, List.getElem?_range hd]
        rw [hgd] at g0 g1 g2
        rw [addr_add] at e0 e1 e2
        have h3 : i % 3 = 0 ∨ i % 3 = 1 ∨ i % 3 = 2 := by omega
        rcases h3 with h3 | h3 | h3
        · have hi3 : i = i / 3 * 3 := by omega
          rw [← hi3] at g0 e0; rw [e0, ← hv, g0]
        · have hi3 : i = i / 3 * 3 + 1 := by omega
          rw [← hi3] at g1 e1; rw [e1, ← hv, g1]
        · have hi3 : i = i / 3 * 3 + 2 := by omega
          rw [← hi3] at g2 e2; rw [e2, ← hv, g2]
    · intro c hc'
      obtain ⟨i, hi, rfl⟩ := List.mem_map.1 hc'
      have h9 := hq i (by have := List.mem_range.1 hi; omega)
      exact ⟨h9.2.2.2.1, h9.2.2.2.2.1⟩
end Go.Proofs.YtdlkdiaobbakiaaGreatDoor
