/- LawDecode's walk. -/
import Derived.Test.YtdlkdiaobbakiaaGreatDoorMeet3
import Derived.Test.YtdlkdiaobbakiaaGreatDoorLayI
import Derived.Deep.RegionHeld3
set_option linter.unusedVariables false
set_option linter.unusedSimpArgs false
set_option linter.unnecessarySimpa false
set_option maxRecDepth 100000
namespace Go.Proofs.YtdlkdiaobbakiaaGreatDoor
open Go.RowKit

theorem tailI_len (m : Nat) : (tailI m).length = m := by simp [tailI]
theorem row_layB {w : World} {g m : Nat} {xs : List Nat} (h : Row w g 5 (u8s (xs ++ tailB m))) (hl : xs.length + m ≤ maxLen) :
    Rd w (.slice (some ⟨g, 0, none⟩) (xs.length + m) (xs.length + m)) (xs ++ tailB m).length 1 (u8s (xs ++ tailB m)) := by
  have e : (xs ++ tailB m).length = xs.length + m := by simp [tailB_length]
  rw [e]
  exact h.rd' (by rw [u8s_length, e]) hl
theorem row_partB {w : World} {g m : Nat} {xs : List Nat} (h : Row w g 5 (u8s (xs ++ tailB m))) (hl : xs.length + m ≤ maxLen) :
    Rd w (.slice (some ⟨g, 0, none⟩) xs.length (xs.length + m)) xs.length 1 (u8s xs) := by
  have := h.rd 0 xs.length (xs.length + m) (by simp [u8s]) (by omega) hl
  rw [List.drop_zero, u8s_append, ← u8s_length xs, List.take_left] at this
  rwa [u8s_length] at this
theorem row_layI2 {w : World} {g m : Nat} {xs : List Int} (h : Row w g 3 (i64s (xs ++ tailI m))) (hl : xs.length + m ≤ maxLen) :
    Rd w (.slice (some ⟨g, 0, none⟩) (xs.length + m) (xs.length + m)) (xs ++ tailI m).length 1 (i64s (xs ++ tailI m)) := by
  have e : (xs ++ tailI m).length = xs.length + m := by simp [tailI_len]
  rw [e]
  exact h.rd' (by rw [i64s_length, e]) hl
theorem row_partI2 {w : World} {g m : Nat} {xs : List Int} (h : Row w g 3 (i64s (xs ++ tailI m))) (hl : xs.length + m ≤ maxLen) :
    Rd w (.slice (some ⟨g, 0, none⟩) xs.length (xs.length + m)) xs.length 1 (i64s xs) := by
  have := h.rd 0 xs.length (xs.length + m) (by simp [i64s]) (by omega) hl
  rw [List.drop_zero, i64s_append, ← i64s_length xs, List.take_left] at this
  rwa [i64s_length] at this
theorem refCells_form (k rows : Int) (xs : List Nat) : ∃ A B C, refCells k rows xs = cellsUp A B C (refLen k rows xs) ∧ refLen k rows xs ≤ 1048576 := by
  unfold refCells refLen
  by_cases h : refCode k rows xs = 0
  · refine ⟨cA (rWs rows.toNat xs), cB (rWs rows.toNat xs) (rPay k.toNat rows.toNat xs).2, cC (rWs rows.toNat xs) (rPay k.toNat rows.toNat xs).2, ?_⟩
    rw [if_pos h, if_pos h]
    refine ⟨rfl, ?_⟩
    unfold refCode at h
    split at h
    · rename_i hg
      simp only [Bool.and_eq_true] at hg
      have hr2 : 0 ≤ rows ∧ rows ≤ 65536 := by simpa [isRows] using hg.2
      omega
    · cases h
  · exact ⟨fun _ => false, fun _ => 0, fun _ => ByteArray.empty, by rw [if_neg h, if_neg h]; exact ⟨rfl, by omega⟩⟩
theorem rgCells_form (k rows : Int) (xs : List Nat) (ps : List Int) (hpl : ps.length ≤ 1048576) : ∃ A B C, rgCells k rows xs ps = cellsUp A B C (rgLen k rows xs ps) ∧ rgLen k rows xs ps ≤ 1048576 := by
  unfold rgCells rgLen
  by_cases h : rgCode k rows xs ps = 0
  · rw [if_pos h, if_pos h]
    exact ⟨_, _, _, rfl, hpl⟩
  · exact ⟨fun _ => false, fun _ => 0, fun _ => ByteArray.empty, by rw [if_neg h, if_neg h]; exact ⟨rfl, by omega⟩⟩
theorem DecodeM_any (w : World) (v : Value) (xs : List Nat) (k rows : Int) (hT : Tab w) (hv : Rd w v xs.length 1 (u8s xs)) (hb : ∀ x ∈ xs, x < 256) (hl : xs.length ≤ 1048576) :
    Calls Tryz.prog 7 #[.int .i64 k, .int .i64 rows, v] w fun e w' => ∃ u, e = .returned (.tuple #[u, .int .i64 (refCode k rows xs)]) ∧ Rd w' u (refLen k rows xs) 3 (refCells k rows xs) ∧ Below w.heap.size w w' := by
  obtain ⟨m1, m2, m3⟩ := dec_meet k rows xs
  refine (Decode_any w v xs k rows hT hv hb hl (fun rows h hr => valid_I rows xs hb hl hr h) (fun rows h hr => valid_S rows xs hb hl hr h)).mono ?_
  rintro e w' ⟨h1, u, h2, h3⟩
  rw [m1] at h2
  rw [m2, m3] at h3
  exact ⟨u, h2, h3, h1⟩
theorem GatherM_any (w : World) (v u : Value) (xs : List Nat) (ps : List Int) (k rows : Int) (hT : Tab w) (hv : Rd w v xs.length 1 (u8s xs)) (hu : Rd w u ps.length 1 (i64s ps)) (hb : ∀ x ∈ xs, x < 256) (hl : xs.length ≤ 1048576) (hpl : ps.length ≤ 1048576) :
    Calls Tryz.prog 10 #[.int .i64 k, .int .i64 rows, v, u] w fun e w' => ∃ t, e = .returned (.tuple #[t, .int .i64 (rgCode k rows xs ps)]) ∧ Rd w' t (rgLen k rows xs ps) 3 (rgCells k rows xs ps) ∧ Below w.heap.size w w' := by
  obtain ⟨m1, m2, m3⟩ := gat_meet k rows xs ps
  refine (Gather_any w v u xs ps k rows hT hv hu hb hl hpl (fun rows h hr => valid_I rows xs hb hl hr h) (fun rows h hr => valid_S rows xs hb hl hr h)).mono ?_
  rintro e w' ⟨h1, t, h2, h3⟩
  rw [m1] at h2
  rw [m2, m3] at h3
  exact ⟨t, h2, h3, h1⟩

set_option maxHeartbeats 16000000 in
theorem lawDecode_walk (v2 v3 : Value) (xs : List Nat) (ps : List Int) (k n r : Int) (w : World) (ht : Tab w) (hx : Rd w v2 xs.length 1 (u8s xs)) (hp : Rd w v3 ps.length 1 (i64s ps))
    (hb : ∀ x ∈ xs, x < 256) (hlx : xs.length ≤ 1048576) (hlp : ps.length ≤ 1048576) :
    Calls Tryz.prog 3 #[.int .i64 k, .int .i64 n, v2, v3, .int .i64 r] w fun e w' => e = .returned (.bool true) ∧ Below w.heap.size w w' := by
  have hm := clipN_le r
  obtain ⟨m, hmr⟩ : ∃ m, clipN r = m := ⟨_, rfl⟩
  rw [hmr] at hm
  have HMR := hid hmr
  have HX := hid hx; have HP := hid hp; have HB := hid hb; have HT := hid ht
  have HTL := hid ht.lt
  have HMX : Hid (xs.length + m ≤ maxLen) := hid (by unfold maxLen; omega)
  have HMP : Hid (ps.length + m ≤ maxLen) := hid (by unfold maxLen; omega)
  have HDC := hid (fun (w2 : World) (v : Value) (h : Below w.heap.size w w2) (hv : Rd w2 v xs.length 1 (u8s xs)) => DecodeM_any w2 v xs k n (ht.mono h ht.lt) hv hb hlx)
  have HDR := hid (fun (w2 : World) (h : Below w.heap.size w w2) => refDecode_any k n v2 xs w2 (hx.mono h) hb hlx)
  have HGC := hid (fun (w2 : World) (v u : Value) (h : Below w.heap.size w w2) (hv : Rd w2 v xs.length 1 (u8s xs)) (hu : Rd w2 u ps.length 1 (i64s ps)) => GatherM_any w2 v u xs ps k n (ht.mono h ht.lt) hv hu hb hlx hlp)
  have HGR := hid (fun (w2 : World) (h : Below w.heap.size w w2) => refGather_any k n v2 v3 xs ps w2 (hx.mono h) (hp.mono h) hb hlx hlp)
  obtain ⟨FA, FB, FC, hf1, hf2⟩ := refCells_form k n xs
  obtain ⟨GA, GB, GC, hg1, hg2⟩ := rgCells_form k n xs ps hlp
  rw [hf1] at HDC HDR
  rw [hg1] at HGC HGR
  clear hf1 hg1
  generalize refCode k n xs = c1 at *
  generalize refLen k n xs = n1 at *
  generalize rgCode k n xs ps = c2 at *
  generalize rgLen k n xs ps = n2 at *
  have HSC := hid (fun (x y : Value) (w2 : World) (h1 : Rd w2 x n1 3 (cellsUp FA FB FC n1)) (h2 : Rd w2 y n1 3 (cellsUp FA FB FC n1)) => sameCells_same x y n1 FA FB FC w2 h1 h2 hf2)
  have HSG := hid (fun (x y : Value) (w2 : World) (h1 : Rd w2 x n2 3 (cellsUp GA GB GC n2)) (h2 : Rd w2 y n2 3 (cellsUp GA GB GC n2)) => sameCells_same x y n2 GA GB GC w2 h1 h2 hg2)
  generalize cellsUp FA FB FC n1 = CF at *
  generalize cellsUp GA GB GC n2 = CG at *
  obtain ⟨A2, ca2, rfl, _, _, _⟩ := hx.form
  obtain ⟨A3, ca3, rfl, _, _, _⟩ := hp.form
  clear hmr hx hp hb ht
  have e1 : (c1 != c1) = false := by simp
  have e2 : (c2 == c2) = true := by simp
  go_enter Tryz.func3, Tryz.ntmps3
  go_wp2_with fail
  refine (layBytes_any _ xs r _ HX.out (by omega)).mono ?_
  rintro e w1 ⟨rfl, hr1, hb1, hz1⟩
  rw [HMR.out] at hr1
  rw [HMR.out]
  have HR1 := hid hr1; have HB1 := hid hb1
  clear hr1 hb1 hz1
  go_wp2_with fail
  refine (layInts_any _ ps r _ (HP.out.mono HB1.out) (by omega)).mono ?_
  rintro e w2 ⟨rfl, hr2, hb2, hz2⟩
  rw [HMR.out] at hr2
  rw [HMR.out]
  have HR2 := hid hr2; have HB2 := hid (bthen HB1.out hb2)
  have HR1b := hid (HR1.out.mono hb2)
  clear hr2 hb2 hz2 HR1
  have HFX := hid (row_partB HR1b.out HMX.out)
  have HFP := hid (row_partI2 HR2.out HMP.out)
  go_wp2_with (go_at_call 7; refine (HDC.out w2 _ HB2.out HFX.out).mono ?_; rintro e w3 ⟨u1, rfl, hrd1, hb3⟩; have HU1 := hid hrd1; have HB3 := hid hb3; obtain ⟨D1, d1, rfl, _, _, _⟩ := hrd1.form; clear hrd1 hb3)
  refine (HDR.out w3 (bthen HB2.out HB3.out)).mono ?_
  rintro e w4 ⟨u2, rfl, ho2, hb4⟩
  have HU2 := hid (owns3_rd ho2)
  have HU1b := hid (HU1.out.mono hb4)
  have HB4 := hid (bthen HB3.out hb4)
  obtain ⟨D2, d2, rfl⟩ := owns3_form ho2
  clear ho2 hb4 HU1
  go_upto_region 7 with (go_at_call 9; refine (HSC.out _ _ w4 HU1b.out HU2.out).mono ?_; rintro e w5 ⟨rfl, nd5, rfl⟩)
  have HB5 : Hid (Below w2.heap.size w2 (w4.drewN nd5)) := hid (bdrew HB4.out nd5)
  generalize w4.drewN nd5 = w5 at *
  have HFX5 := hid (HFX.out.mono HB5.out)
  have HFP5 := hid (HFP.out.mono HB5.out)
  have HB05 := hid (bthen HB2.out HB5.out)
  have HGW := hid (fun (w6 : World) (h : Below w5.heap.size w5 w6) => HGC.out w6 _ _ (bthen HB05.out h) (HFX5.out.mono h) (HFP5.out.mono h))
  clear HU1b HU2 HB3 HB4 HFX HFP HDC HDR HSC
  have s1 : (xs.length : Int) ≤ (xs.length : Int) + (m : Int) := by omega
  have s2 : (ps.length : Int) ≤ (ps.length : Int) + (m : Int) := by omega
  have s3 : xs.length ≤ xs.length + m := by omega
  have s4 : ps.length ≤ ps.length + m := by omega
  go_region_held3 (fun w' => True) (trivial)
    (first | (go_at_call 10; refine (HGW.out _ (bdrew (brefl w5) 1)).mono ?_; rintro e w6 ⟨u3, rfl, hrd3, hb6⟩; have HU3 := hid hrd3; have HB6 := hid ((bdrew (brefl w5) 1).trans hb6); obtain ⟨D3, d3, rfl, _, _, _⟩ := hrd3.form; clear hrd3 hb6))
  have HB06 := hid (bthen HB05.out HB6.out)
  go_wp2_with fail
  refine (HGR.out w6 HB06.out).mono ?_
  rintro e w7 ⟨u4, rfl, ho4, hb7⟩
  have HU4 := hid (owns3_rd ho4)
  have HU3b := hid (HU3.out.mono hb7)
  have HB27 := hid (bthen (bthen HB5.out HB6.out) hb7)
  obtain ⟨D4, d4, rfl⟩ := owns3_form ho4
  clear ho4 hb7 HU3 HGW HGC HGR HB06 HB6 HFX5 HFP5 HB5 HB05
  have HR17 := hid (HR1b.out.mono HB27.out)
  have HR27 := hid (HR2.out.mono HB27.out)
  have HB07 := hid (bthen HB2.out HB27.out)
  clear HR1b HR2 HB27
  go_wp2_with (first
    | (go_at_call 9; refine (HSG.out _ _ w7 HU3b.out HU4.out).mono ?_; rintro e w8 ⟨rfl, nd8, rfl⟩; have HB08 : Hid (Below w7.heap.size w7 (w7.drewN nd8)) := hid (bdrew (brefl w7) nd8))
    | (go_at_call 5; refine (layBytes_any _ xs r _ (HX.out.mono (bthen HB07.out HB08.out)) (by omega)).mono ?_; rintro e w9 ⟨rfl, hr9, hb9, hz9⟩; rw [HMR.out] at hr9; rw [HMR.out]; have HR9 := hid hr9; have HB9 := hid (bthen HB08.out hb9); clear hr9 hb9 hz9)
    | (go_at_call 12; refine (sameBytes_same _ _ (xs ++ tailB m) _ (row_layB (HR17.out.mono HB9.out) HMX.out) (row_layB HR9.out HMX.out)).mono ?_; rintro e w10 ⟨rfl, hw⟩; replace hw := hw.symm; subst hw)
    | (go_at_call 6; refine (layInts_any _ ps r _ (HP.out.mono (bthen HB07.out HB9.out)) (by omega)).mono ?_; rintro e w11 ⟨rfl, hr11, hb11, hz11⟩; rw [HMR.out] at hr11; rw [HMR.out]; have HR11 := hid hr11; have HB11 := hid (bthen HB9.out hb11); clear hr11 hb11 hz11)
    | (go_at_call 13; refine (sameInts_same _ _ (ps ++ tailI m) _ (row_layI2 (HR27.out.mono HB11.out) HMP.out) (row_layI2 HR11.out HMP.out) (by have := HMP.out; rw [List.length_append, tailI_len]; exact this)).mono ?_; rintro e w12 ⟨rfl, nd12, rfl⟩))
  go_ret
  exact ⟨rfl, bdrew (bthen HB07.out HB11.out) nd12⟩
end Go.Proofs.YtdlkdiaobbakiaaGreatDoor
